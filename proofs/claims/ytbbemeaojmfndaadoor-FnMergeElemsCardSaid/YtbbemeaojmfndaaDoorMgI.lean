/- impl.MergeElems. -/
import Derived.Test.YtbbemeaojmfndaaDoorMgS
import Derived.Test.YtbbemeaojmfndaaDoorM5q0p1
import Derived.Test.YtbbemeaojmfndaaDoorM2q0p1
import Derived.Test.YtbbemeaojmfndaaDoorLocE
import Derived.Test.YtbbemeaojmfndaaDoorElV
import Derived.Deep.DeepCutAuto
import Derived.Deep.RegionHeld3
namespace Go.Proofs.YtbbemeaojmfndaaDoor
open Go.RowKit

theorem eearlyD2 {E w' : World} {c0 c1 c2 c3 c4 c5 c6 c7 c8 : Value} {T : TypeId} {o : Obj} (hb : Below ((E.alloc (.cells #[c0, c1, c2, c3, c4, c5, c6, c7, c8] T)).alloc o).drew.heap.size ((E.alloc (.cells #[c0, c1, c2, c3, c4, c5, c6, c7, c8] T)).alloc o).drew w') :
    E.heap.size < w'.heap.size ∧ w'.cell? ⟨E.heap.size, 0, none⟩ = some c0 ∧ w'.cell? ⟨E.heap.size, 1, none⟩ = some c1 ∧ w'.cell? ⟨E.heap.size, 2, none⟩ = some c2 ∧ w'.cell? ⟨E.heap.size, 3, none⟩ = some c3 ∧ w'.cell? ⟨E.heap.size, 4, none⟩ = some c4 ∧ w'.cell? ⟨E.heap.size, 5, none⟩ = some c5 ∧ w'.cell? ⟨E.heap.size, 6, none⟩ = some c6 ∧ w'.cell? ⟨E.heap.size, 7, none⟩ = some c7 ∧ w'.cell? ⟨E.heap.size, 8, none⟩ = some c8 ∧ w'.frozen? ⟨E.heap.size, 0, none⟩ = false ∧ w'.frozen? ⟨E.heap.size, 1, none⟩ = false ∧ w'.frozen? ⟨E.heap.size, 2, none⟩ = false ∧ w'.frozen? ⟨E.heap.size, 3, none⟩ = false ∧ w'.frozen? ⟨E.heap.size, 4, none⟩ = false ∧ w'.frozen? ⟨E.heap.size, 5, none⟩ = false ∧ w'.frozen? ⟨E.heap.size, 6, none⟩ = false ∧ w'.frozen? ⟨E.heap.size, 7, none⟩ = false ∧ w'.frozen? ⟨E.heap.size, 8, none⟩ = false :=
  eearly (below_past (((Below.refl ((E.alloc (.cells #[c0, c1, c2, c3, c4, c5, c6, c7, c8] T)).alloc o).heap.size ((E.alloc (.cells #[c0, c1, c2, c3, c4, c5, c6, c7, c8] T)).alloc o)).drew).trans hb))
theorem orS_sm {x y : ByteArray} {m : Nat} (h : x.size ≤ m) (h' : y.size ≤ m) : (orS x y).size ≤ m := by unfold orS; split; exact h'; exact h
set_option maxRecDepth 100000 in
set_option maxHeartbeats 16000000 in
theorem mergeElems_any (a b : El) (u u' : Value) (B : Nat) (w : World) (ha : a.Liv B w u) (hb : b.Liv B w u') (hB : B ≤ w.heap.size) (hs : a.Sm) (hs' : b.Sm) (hvars : Vars w) :
    Calls Tryd.prog 8 #[u, u'] w (MePost a b w) := by
  have HVV := Lib.hid hvars
  clear hvars
  obtain ⟨an, av, al, ac, ad⟩ := a
  obtain ⟨bn, bv, bl, bc, bd⟩ := b
  obtain ⟨k1, k2, rfl, hal, hac⟩ := ha
  obtain ⟨k3, k4, rfl, hbl, hbc⟩ := hb
  obtain ⟨pa, ca, rfl⟩ := hal.in.form
  obtain ⟨qa, da, rfl⟩ := hac.in.form
  obtain ⟨pb, cb, rfl⟩ := hbl.in.form
  obtain ⟨qb, db, rfl⟩ := hbc.in.form
  obtain ⟨W0, eW⟩ : ∃ W0, W0 = ((w.alloc (.cells #[.bool an, .string av, .int .i64 al.op, .string al.a, .slice pa al.ks.list.length ca, .int .i64 ac.op, .string ac.a, .slice qa ac.ks.list.length da, .int .i64 ad] 27)).alloc (.cells #[.bool bn, .string bv, .int .i64 bl.op, .string bl.a, .slice pb bl.ks.list.length cb, .int .i64 bc.op, .string bc.a, .slice qb bc.ks.list.length db, .int .i64 bd] 27)).alloc (.cells #[.bool false, .string ⟨#[]⟩, .int .i64 0, .string ⟨#[]⟩, .slice none 0 0, .int .i64 0, .string ⟨#[]⟩, .slice none 0 0, .int .i64 0] 27) := ⟨_, rfl⟩
  have hs0 : w.heap.size + 3 ≤ W0.heap.size := by rw [eW]; simp
  have HV := Lib.hid (show Below w.heap.size w W0 by rw [eW]; exact (((Below.refl _ _).alloc (Nat.le_refl _) _).alloc (by simp) _).alloc (by simp; omega) _)
  have HK2 := Lib.hid (show ∀ E, Below (w.heap.size + 2) W0 E → E.cell? ⟨w.heap.size, 0, none⟩ = some (.bool an) ∧ E.cell? ⟨w.heap.size, 1, none⟩ = some (.string av) ∧ E.cell? ⟨w.heap.size, 2, none⟩ = some (.int .i64 al.op) ∧ E.cell? ⟨w.heap.size, 3, none⟩ = some (.string al.a) ∧ E.cell? ⟨w.heap.size, 4, none⟩ = some (.slice pa al.ks.list.length ca) ∧ E.cell? ⟨w.heap.size, 5, none⟩ = some (.int .i64 ac.op) ∧ E.cell? ⟨w.heap.size, 6, none⟩ = some (.string ac.a) ∧ E.cell? ⟨w.heap.size, 7, none⟩ = some (.slice qa ac.ks.list.length da) ∧ E.cell? ⟨w.heap.size, 8, none⟩ = some (.int .i64 ad) ∧ E.cell? ⟨w.heap.size + 1, 0, none⟩ = some (.bool bn) ∧ E.cell? ⟨w.heap.size + 1, 1, none⟩ = some (.string bv) ∧ E.cell? ⟨w.heap.size + 1, 2, none⟩ = some (.int .i64 bl.op) ∧ E.cell? ⟨w.heap.size + 1, 3, none⟩ = some (.string bl.a) ∧ E.cell? ⟨w.heap.size + 1, 4, none⟩ = some (.slice pb bl.ks.list.length cb) ∧ E.cell? ⟨w.heap.size + 1, 5, none⟩ = some (.int .i64 bc.op) ∧ E.cell? ⟨w.heap.size + 1, 6, none⟩ = some (.string bc.a) ∧ E.cell? ⟨w.heap.size + 1, 7, none⟩ = some (.slice qb bc.ks.list.length db) ∧ E.cell? ⟨w.heap.size + 1, 8, none⟩ = some (.int .i64 bd) from fun E hE => by rw [eW] at hE; exact ⟨keepc hE (by omega) (by simp [go_sem]), keepc hE (by omega) (by simp [go_sem]), keepc hE (by omega) (by simp [go_sem]), keepc hE (by omega) (by simp [go_sem]), keepc hE (by omega) (by simp [go_sem]), keepc hE (by omega) (by simp [go_sem]), keepc hE (by omega) (by simp [go_sem]), keepc hE (by omega) (by simp [go_sem]), keepc hE (by omega) (by simp [go_sem]), keepc hE (by omega) (by simp [go_sem]), keepc hE (by omega) (by simp [go_sem]), keepc hE (by omega) (by simp [go_sem]), keepc hE (by omega) (by simp [go_sem]), keepc hE (by omega) (by simp [go_sem]), keepc hE (by omega) (by simp [go_sem]), keepc hE (by omega) (by simp [go_sem]), keepc hE (by omega) (by simp [go_sem]), keepc hE (by omega) (by simp [go_sem])⟩)
  have HKZ := Lib.hid (show ∀ E, Below (w.heap.size + 3) W0 E → E.cell? ⟨w.heap.size + 1 + 1, 0, none⟩ = some (.bool false) ∧ E.cell? ⟨w.heap.size + 1 + 1, 1, none⟩ = some (.string ⟨#[]⟩) ∧ E.cell? ⟨w.heap.size + 1 + 1, 2, none⟩ = some (.int .i64 0) ∧ E.cell? ⟨w.heap.size + 1 + 1, 3, none⟩ = some (.string ⟨#[]⟩) ∧ E.cell? ⟨w.heap.size + 1 + 1, 4, none⟩ = some (.slice none 0 0) ∧ E.cell? ⟨w.heap.size + 1 + 1, 5, none⟩ = some (.int .i64 0) ∧ E.cell? ⟨w.heap.size + 1 + 1, 6, none⟩ = some (.string ⟨#[]⟩) ∧ E.cell? ⟨w.heap.size + 1 + 1, 7, none⟩ = some (.slice none 0 0) ∧ E.cell? ⟨w.heap.size + 1 + 1, 8, none⟩ = some (.int .i64 0) ∧ E.frozen? ⟨w.heap.size + 1 + 1, 0, none⟩ = false ∧ E.frozen? ⟨w.heap.size + 1 + 1, 1, none⟩ = false ∧ E.frozen? ⟨w.heap.size + 1 + 1, 2, none⟩ = false ∧ E.frozen? ⟨w.heap.size + 1 + 1, 3, none⟩ = false ∧ E.frozen? ⟨w.heap.size + 1 + 1, 4, none⟩ = false ∧ E.frozen? ⟨w.heap.size + 1 + 1, 5, none⟩ = false ∧ E.frozen? ⟨w.heap.size + 1 + 1, 6, none⟩ = false ∧ E.frozen? ⟨w.heap.size + 1 + 1, 7, none⟩ = false ∧ E.frozen? ⟨w.heap.size + 1 + 1, 8, none⟩ = false from fun E hE => by rw [eW] at hE; exact ⟨keepc hE (by omega) (by simp [go_sem]), keepc hE (by omega) (by simp [go_sem]), keepc hE (by omega) (by simp [go_sem]), keepc hE (by omega) (by simp [go_sem]), keepc hE (by omega) (by simp [go_sem]), keepc hE (by omega) (by simp [go_sem]), keepc hE (by omega) (by simp [go_sem]), keepc hE (by omega) (by simp [go_sem]), keepc hE (by omega) (by simp [go_sem]), (hE.frozen (by simp)).trans (by simp [go_sem]), (hE.frozen (by simp)).trans (by simp [go_sem]), (hE.frozen (by simp)).trans (by simp [go_sem]), (hE.frozen (by simp)).trans (by simp [go_sem]), (hE.frozen (by simp)).trans (by simp [go_sem]), (hE.frozen (by simp)).trans (by simp [go_sem]), (hE.frozen (by simp)).trans (by simp [go_sem]), (hE.frozen (by simp)).trans (by simp [go_sem]), (hE.frozen (by simp)).trans (by simp [go_sem])⟩)
  have HL2 := Lib.hid (fun (E : World) (hE : Below (w.heap.size + 3) W0 E) => (hE.mono (by omega) : Below (w.heap.size + 2) W0 E))
  have HB := Lib.hid (fun (E : World) (hE : Below (w.heap.size + 3) W0 E) => (HV.out.trans (hE.mono (by omega))).mono hB)
  have HLa := Lib.hid (fun (E : World) (hE : Below (w.heap.size + 3) W0 E) => (⟨_, _, rfl, hal.below (HB.out E hE) (Nat.le_refl _), hac.below (HB.out E hE) (Nat.le_refl _)⟩ : (⟨an, av, al, ac, ad⟩ : El).Liv B E (.agg #[.bool an, .string av, .int .i64 al.op, .string al.a, .slice pa al.ks.list.length ca, .int .i64 ac.op, .string ac.a, .slice qa ac.ks.list.length da, .int .i64 ad])))
  have HLb := Lib.hid (fun (E : World) (hE : Below (w.heap.size + 3) W0 E) => (⟨_, _, rfl, hbl.below (HB.out E hE) (Nat.le_refl _), hbc.below (HB.out E hE) (Nat.le_refl _)⟩ : (⟨bn, bv, bl, bc, bd⟩ : El).Liv B E (.agg #[.bool bn, .string bv, .int .i64 bl.op, .string bl.a, .slice pb bl.ks.list.length cb, .int .i64 bc.op, .string bc.a, .slice qb bc.ks.list.length db, .int .i64 bd])))
  have HPL := Lib.hid (fun (E : World) (hE : Below (w.heap.size + 3) W0 E) => And.intro (hal.below (HB.out E hE) (Nat.le_refl _)) (hbl.below (HB.out E hE) (Nat.le_refl _)))
  have HPC := Lib.hid (fun (E : World) (hE : Below (w.heap.size + 3) W0 E) => And.intro (hac.below (HB.out E hE) (Nat.le_refl _)) (hbc.below (HB.out E hE) (Nat.le_refl _)))
  have EW := Lib.hid eW
  clear eW hal hac hbl hbc
  have HZ0 := Lib.hid hs0
  have r0 := Below.refl (w.heap.size + 3) W0
  obtain ⟨G, eG⟩ : ∃ G, G = (((an && elemV (⟨an, av, al, ac, ad⟩ : El)) && ((bn && elemV (⟨bn, bv, bl, bc, bd⟩ : El)) && varsT av bv))) := ⟨_, rfl⟩
  go_enter Tryd.func8, Tryd.ntmps8
  go_upto_region 1 with fail
  rw [← EW.out]
  obtain ⟨x0, x1, x2, x3, x4, x5, x6, x7, x8, x9, x10, x11, x12, x13, x14, x15, x16, x17⟩ := HK2.out _ (HL2.out _ r0)
  obtain ⟨z0, z1, z2, z3, z4, z5, z6, z7, z8, f0, f1, f2, f3, f4, f5, f6, f7, f8⟩ := HKZ.out _ r0
  go_cut [31] (fun s wx => s = .bool (!G) ∧ Below (w.heap.size + 3) W0 wx)
  case first =>
    cases hva : (an && elemV (⟨an, av, al, ac, ad⟩ : El)) with
    | false =>
      go_wp2_with fail
      refine Calls.mono (nodeElemValid_any (⟨an, av, al, ac, ad⟩ : El) _ _ _ (El.Liv.at (HLa.out _ r0)) (by have := (r0).size; omega) hs (HVV.out.below (HV.out.trans (Below.mono r0 (by omega))))) ?_
      rintro en w1 ⟨rfl, hb⟩
      rw [show (((⟨an, av, al, ac, ad⟩ : El)).n && elemV (⟨an, av, al, ac, ad⟩ : El)) = false from hva]
      have rw1 := Below.trans (r0) (hb.mono (by have := (r0).size; omega))
      clear hb
      clear x0 x1 x2 x3 x4 x5 x6 x7 x8 x9 x10 x11 x12 x13 x14 x15 x16 x17 z0 z1 z2 z3 z4 z5 z6 z7 z8 f0 f1 f2 f3 f4 f5 f6 f7 f8
      obtain ⟨x0, x1, x2, x3, x4, x5, x6, x7, x8, x9, x10, x11, x12, x13, x14, x15, x16, x17⟩ := HK2.out _ (HL2.out _ rw1)
      obtain ⟨z0, z1, z2, z3, z4, z5, z6, z7, z8, f0, f1, f2, f3, f4, f5, f6, f7, f8⟩ := HKZ.out _ rw1
      go_wp2_with fail
      go_meet
      exact ⟨by rw [eG]; rw [hva]; rfl, by ((repeat (first | with_reducible assumption | with_reducible exact Below.refl _ _ | refine Below.setCell ?_ (by (first | omega | (simp; omega) | (simp; done) | fail "sml")) _ | refine Below.drew ?_ | refine Below.alloc ?_ (by (first | omega | (simp; omega) | (simp; done) | fail "sml")) _)); first | done | fail "chs")⟩
    | true =>
      cases hvb : (bn && elemV (⟨bn, bv, bl, bc, bd⟩ : El)) with
      | false =>
        go_wp2_with fail
        refine Calls.mono (nodeElemValid_any (⟨an, av, al, ac, ad⟩ : El) _ _ _ (El.Liv.at (HLa.out _ r0)) (by have := (r0).size; omega) hs (HVV.out.below (HV.out.trans (Below.mono r0 (by omega))))) ?_
        rintro en w1 ⟨rfl, hb⟩
        rw [show (((⟨an, av, al, ac, ad⟩ : El)).n && elemV (⟨an, av, al, ac, ad⟩ : El)) = true from hva]
        have rw1 := Below.trans (r0) (hb.mono (by have := (r0).size; omega))
        clear hb
        clear x0 x1 x2 x3 x4 x5 x6 x7 x8 x9 x10 x11 x12 x13 x14 x15 x16 x17 z0 z1 z2 z3 z4 z5 z6 z7 z8 f0 f1 f2 f3 f4 f5 f6 f7 f8
        obtain ⟨x0, x1, x2, x3, x4, x5, x6, x7, x8, x9, x10, x11, x12, x13, x14, x15, x16, x17⟩ := HK2.out _ (HL2.out _ rw1)
        obtain ⟨z0, z1, z2, z3, z4, z5, z6, z7, z8, f0, f1, f2, f3, f4, f5, f6, f7, f8⟩ := HKZ.out _ rw1
        go_wp2_with fail
        refine Calls.mono (nodeElemValid_any (⟨bn, bv, bl, bc, bd⟩ : El) _ _ _ (El.Liv.at (HLb.out _ rw1)) (by have := (rw1).size; omega) hs' (HVV.out.below (HV.out.trans (Below.mono rw1 (by omega))))) ?_
        rintro en w2 ⟨rfl, hb⟩
        rw [show (((⟨bn, bv, bl, bc, bd⟩ : El)).n && elemV (⟨bn, bv, bl, bc, bd⟩ : El)) = false from hvb]
        have rw2 := Below.trans (rw1) (hb.mono (by have := (rw1).size; omega))
        clear hb
        clear x0 x1 x2 x3 x4 x5 x6 x7 x8 x9 x10 x11 x12 x13 x14 x15 x16 x17 z0 z1 z2 z3 z4 z5 z6 z7 z8 f0 f1 f2 f3 f4 f5 f6 f7 f8
        obtain ⟨x0, x1, x2, x3, x4, x5, x6, x7, x8, x9, x10, x11, x12, x13, x14, x15, x16, x17⟩ := HK2.out _ (HL2.out _ rw2)
        obtain ⟨z0, z1, z2, z3, z4, z5, z6, z7, z8, f0, f1, f2, f3, f4, f5, f6, f7, f8⟩ := HKZ.out _ rw2
        go_wp2_with fail
        go_meet
        exact ⟨by rw [eG]; rw [hva, hvb]; rfl, by ((repeat (first | with_reducible assumption | with_reducible exact Below.refl _ _ | refine Below.setCell ?_ (by (first | omega | (simp; omega) | (simp; done) | fail "sml")) _ | refine Below.drew ?_ | refine Below.alloc ?_ (by (first | omega | (simp; omega) | (simp; done) | fail "sml")) _)); first | done | fail "chs")⟩
      | true =>
        cases hea : av.toList.isEmpty with
        | true =>
          go_wp2_with fail
          refine Calls.mono (nodeElemValid_any (⟨an, av, al, ac, ad⟩ : El) _ _ _ (El.Liv.at (HLa.out _ r0)) (by have := (r0).size; omega) hs (HVV.out.below (HV.out.trans (Below.mono r0 (by omega))))) ?_
          rintro en w1 ⟨rfl, hb⟩
          rw [show (((⟨an, av, al, ac, ad⟩ : El)).n && elemV (⟨an, av, al, ac, ad⟩ : El)) = true from hva]
          have rw1 := Below.trans (r0) (hb.mono (by have := (r0).size; omega))
          clear hb
          clear x0 x1 x2 x3 x4 x5 x6 x7 x8 x9 x10 x11 x12 x13 x14 x15 x16 x17 z0 z1 z2 z3 z4 z5 z6 z7 z8 f0 f1 f2 f3 f4 f5 f6 f7 f8
          obtain ⟨x0, x1, x2, x3, x4, x5, x6, x7, x8, x9, x10, x11, x12, x13, x14, x15, x16, x17⟩ := HK2.out _ (HL2.out _ rw1)
          obtain ⟨z0, z1, z2, z3, z4, z5, z6, z7, z8, f0, f1, f2, f3, f4, f5, f6, f7, f8⟩ := HKZ.out _ rw1
          go_wp2_with fail
          refine Calls.mono (nodeElemValid_any (⟨bn, bv, bl, bc, bd⟩ : El) _ _ _ (El.Liv.at (HLb.out _ rw1)) (by have := (rw1).size; omega) hs' (HVV.out.below (HV.out.trans (Below.mono rw1 (by omega))))) ?_
          rintro en w2 ⟨rfl, hb⟩
          rw [show (((⟨bn, bv, bl, bc, bd⟩ : El)).n && elemV (⟨bn, bv, bl, bc, bd⟩ : El)) = true from hvb]
          have rw2 := Below.trans (rw1) (hb.mono (by have := (rw1).size; omega))
          clear hb
          clear x0 x1 x2 x3 x4 x5 x6 x7 x8 x9 x10 x11 x12 x13 x14 x15 x16 x17 z0 z1 z2 z3 z4 z5 z6 z7 z8 f0 f1 f2 f3 f4 f5 f6 f7 f8
          obtain ⟨x0, x1, x2, x3, x4, x5, x6, x7, x8, x9, x10, x11, x12, x13, x14, x15, x16, x17⟩ := HK2.out _ (HL2.out _ rw2)
          obtain ⟨z0, z1, z2, z3, z4, z5, z6, z7, z8, f0, f1, f2, f3, f4, f5, f6, f7, f8⟩ := HKZ.out _ rw2
          go_wp2_with fail
          go_meet
          exact ⟨by rw [eG]; rw [hva, hvb, show varsT av bv = true by unfold varsT; rw [hea]; first | rfl | simp]; rfl, by ((repeat (first | with_reducible assumption | with_reducible exact Below.refl _ _ | refine Below.setCell ?_ (by (first | omega | (simp; omega) | (simp; done) | fail "sml")) _ | refine Below.drew ?_ | refine Below.alloc ?_ (by (first | omega | (simp; omega) | (simp; done) | fail "sml")) _)); first | done | fail "chs")⟩
        | false =>
          cases heb : bv.toList.isEmpty with
          | true =>
            go_wp2_with fail
            refine Calls.mono (nodeElemValid_any (⟨an, av, al, ac, ad⟩ : El) _ _ _ (El.Liv.at (HLa.out _ r0)) (by have := (r0).size; omega) hs (HVV.out.below (HV.out.trans (Below.mono r0 (by omega))))) ?_
            rintro en w1 ⟨rfl, hb⟩
            rw [show (((⟨an, av, al, ac, ad⟩ : El)).n && elemV (⟨an, av, al, ac, ad⟩ : El)) = true from hva]
            have rw1 := Below.trans (r0) (hb.mono (by have := (r0).size; omega))
            clear hb
            clear x0 x1 x2 x3 x4 x5 x6 x7 x8 x9 x10 x11 x12 x13 x14 x15 x16 x17 z0 z1 z2 z3 z4 z5 z6 z7 z8 f0 f1 f2 f3 f4 f5 f6 f7 f8
            obtain ⟨x0, x1, x2, x3, x4, x5, x6, x7, x8, x9, x10, x11, x12, x13, x14, x15, x16, x17⟩ := HK2.out _ (HL2.out _ rw1)
            obtain ⟨z0, z1, z2, z3, z4, z5, z6, z7, z8, f0, f1, f2, f3, f4, f5, f6, f7, f8⟩ := HKZ.out _ rw1
            go_wp2_with fail
            refine Calls.mono (nodeElemValid_any (⟨bn, bv, bl, bc, bd⟩ : El) _ _ _ (El.Liv.at (HLb.out _ rw1)) (by have := (rw1).size; omega) hs' (HVV.out.below (HV.out.trans (Below.mono rw1 (by omega))))) ?_
            rintro en w2 ⟨rfl, hb⟩
            rw [show (((⟨bn, bv, bl, bc, bd⟩ : El)).n && elemV (⟨bn, bv, bl, bc, bd⟩ : El)) = true from hvb]
            have rw2 := Below.trans (rw1) (hb.mono (by have := (rw1).size; omega))
            clear hb
            clear x0 x1 x2 x3 x4 x5 x6 x7 x8 x9 x10 x11 x12 x13 x14 x15 x16 x17 z0 z1 z2 z3 z4 z5 z6 z7 z8 f0 f1 f2 f3 f4 f5 f6 f7 f8
            obtain ⟨x0, x1, x2, x3, x4, x5, x6, x7, x8, x9, x10, x11, x12, x13, x14, x15, x16, x17⟩ := HK2.out _ (HL2.out _ rw2)
            obtain ⟨z0, z1, z2, z3, z4, z5, z6, z7, z8, f0, f1, f2, f3, f4, f5, f6, f7, f8⟩ := HKZ.out _ rw2
            go_wp2_with fail
            go_meet
            exact ⟨by rw [eG]; rw [hva, hvb, show varsT av bv = true by unfold varsT; rw [hea, heb]; first | rfl | simp]; rfl, by ((repeat (first | with_reducible assumption | with_reducible exact Below.refl _ _ | refine Below.setCell ?_ (by (first | omega | (simp; omega) | (simp; done) | fail "sml")) _ | refine Below.drew ?_ | refine Below.alloc ?_ (by (first | omega | (simp; omega) | (simp; done) | fail "sml")) _)); first | done | fail "chs")⟩
          | false =>
            cases heq : (av.toList == bv.toList) with
            | true =>
              have heq2 : (av.toList != bv.toList) = false := by unfold bne; rw [heq]; rfl
              go_wp2_with fail
              refine Calls.mono (nodeElemValid_any (⟨an, av, al, ac, ad⟩ : El) _ _ _ (El.Liv.at (HLa.out _ r0)) (by have := (r0).size; omega) hs (HVV.out.below (HV.out.trans (Below.mono r0 (by omega))))) ?_
              rintro en w1 ⟨rfl, hb⟩
              rw [show (((⟨an, av, al, ac, ad⟩ : El)).n && elemV (⟨an, av, al, ac, ad⟩ : El)) = true from hva]
              have rw1 := Below.trans (r0) (hb.mono (by have := (r0).size; omega))
              clear hb
              clear x0 x1 x2 x3 x4 x5 x6 x7 x8 x9 x10 x11 x12 x13 x14 x15 x16 x17 z0 z1 z2 z3 z4 z5 z6 z7 z8 f0 f1 f2 f3 f4 f5 f6 f7 f8
              obtain ⟨x0, x1, x2, x3, x4, x5, x6, x7, x8, x9, x10, x11, x12, x13, x14, x15, x16, x17⟩ := HK2.out _ (HL2.out _ rw1)
              obtain ⟨z0, z1, z2, z3, z4, z5, z6, z7, z8, f0, f1, f2, f3, f4, f5, f6, f7, f8⟩ := HKZ.out _ rw1
              go_wp2_with fail
              refine Calls.mono (nodeElemValid_any (⟨bn, bv, bl, bc, bd⟩ : El) _ _ _ (El.Liv.at (HLb.out _ rw1)) (by have := (rw1).size; omega) hs' (HVV.out.below (HV.out.trans (Below.mono rw1 (by omega))))) ?_
              rintro en w2 ⟨rfl, hb⟩
              rw [show (((⟨bn, bv, bl, bc, bd⟩ : El)).n && elemV (⟨bn, bv, bl, bc, bd⟩ : El)) = true from hvb]
              have rw2 := Below.trans (rw1) (hb.mono (by have := (rw1).size; omega))
              clear hb
              clear x0 x1 x2 x3 x4 x5 x6 x7 x8 x9 x10 x11 x12 x13 x14 x15 x16 x17 z0 z1 z2 z3 z4 z5 z6 z7 z8 f0 f1 f2 f3 f4 f5 f6 f7 f8
              obtain ⟨x0, x1, x2, x3, x4, x5, x6, x7, x8, x9, x10, x11, x12, x13, x14, x15, x16, x17⟩ := HK2.out _ (HL2.out _ rw2)
              obtain ⟨z0, z1, z2, z3, z4, z5, z6, z7, z8, f0, f1, f2, f3, f4, f5, f6, f7, f8⟩ := HKZ.out _ rw2
              go_wp2_with fail
              go_meet
              exact ⟨by rw [eG]; rw [hva, hvb, show varsT av bv = true by unfold varsT; rw [hea, heb, heq]; first | rfl | simp]; rfl, by ((repeat (first | with_reducible assumption | with_reducible exact Below.refl _ _ | refine Below.setCell ?_ (by (first | omega | (simp; omega) | (simp; done) | fail "sml")) _ | refine Below.drew ?_ | refine Below.alloc ?_ (by (first | omega | (simp; omega) | (simp; done) | fail "sml")) _)); first | done | fail "chs")⟩
            | false =>
              have heq2 : (av.toList != bv.toList) = true := by unfold bne; rw [heq]; rfl
              go_wp2_with fail
              refine Calls.mono (nodeElemValid_any (⟨an, av, al, ac, ad⟩ : El) _ _ _ (El.Liv.at (HLa.out _ r0)) (by have := (r0).size; omega) hs (HVV.out.below (HV.out.trans (Below.mono r0 (by omega))))) ?_
              rintro en w1 ⟨rfl, hb⟩
              rw [show (((⟨an, av, al, ac, ad⟩ : El)).n && elemV (⟨an, av, al, ac, ad⟩ : El)) = true from hva]
              have rw1 := Below.trans (r0) (hb.mono (by have := (r0).size; omega))
              clear hb
              clear x0 x1 x2 x3 x4 x5 x6 x7 x8 x9 x10 x11 x12 x13 x14 x15 x16 x17 z0 z1 z2 z3 z4 z5 z6 z7 z8 f0 f1 f2 f3 f4 f5 f6 f7 f8
              obtain ⟨x0, x1, x2, x3, x4, x5, x6, x7, x8, x9, x10, x11, x12, x13, x14, x15, x16, x17⟩ := HK2.out _ (HL2.out _ rw1)
              obtain ⟨z0, z1, z2, z3, z4, z5, z6, z7, z8, f0, f1, f2, f3, f4, f5, f6, f7, f8⟩ := HKZ.out _ rw1
              go_wp2_with fail
              refine Calls.mono (nodeElemValid_any (⟨bn, bv, bl, bc, bd⟩ : El) _ _ _ (El.Liv.at (HLb.out _ rw1)) (by have := (rw1).size; omega) hs' (HVV.out.below (HV.out.trans (Below.mono rw1 (by omega))))) ?_
              rintro en w2 ⟨rfl, hb⟩
              rw [show (((⟨bn, bv, bl, bc, bd⟩ : El)).n && elemV (⟨bn, bv, bl, bc, bd⟩ : El)) = true from hvb]
              have rw2 := Below.trans (rw1) (hb.mono (by have := (rw1).size; omega))
              clear hb
              clear x0 x1 x2 x3 x4 x5 x6 x7 x8 x9 x10 x11 x12 x13 x14 x15 x16 x17 z0 z1 z2 z3 z4 z5 z6 z7 z8 f0 f1 f2 f3 f4 f5 f6 f7 f8
              obtain ⟨x0, x1, x2, x3, x4, x5, x6, x7, x8, x9, x10, x11, x12, x13, x14, x15, x16, x17⟩ := HK2.out _ (HL2.out _ rw2)
              obtain ⟨z0, z1, z2, z3, z4, z5, z6, z7, z8, f0, f1, f2, f3, f4, f5, f6, f7, f8⟩ := HKZ.out _ rw2
              go_wp2_with fail
              go_meet
              exact ⟨by rw [eG]; rw [hva, hvb, show varsT av bv = false by unfold varsT; rw [hea, heb, heq]; rfl]; rfl, by ((repeat (first | with_reducible assumption | with_reducible exact Below.refl _ _ | refine Below.setCell ?_ (by (first | omega | (simp; omega) | (simp; done) | fail "sml")) _ | refine Below.drew ?_ | refine Below.alloc ?_ (by (first | omega | (simp; omega) | (simp; done) | fail "sml")) _)); first | done | fail "chs")⟩
  case rest =>
    obtain ⟨rfl, hbx⟩ := hcut
    rename World => W1
    clear x0 x1 x2 x3 x4 x5 x6 x7 x8 x9 x10 x11 x12 x13 x14 x15 x16 x17 z0 z1 z2 z3 z4 z5 z6 z7 z8 f0 f1 f2 f3 f4 f5 f6 f7 f8
    obtain ⟨x0, x1, x2, x3, x4, x5, x6, x7, x8, x9, x10, x11, x12, x13, x14, x15, x16, x17⟩ := HK2.out _ (HL2.out _ hbx)
    obtain ⟨z0, z1, z2, z3, z4, z5, z6, z7, z8, f0, f1, f2, f3, f4, f5, f6, f7, f8⟩ := HKZ.out _ hbx
    
    have HNO := Lib.hid (fun (h : mergeB (⟨an, av, al, ac, ad⟩ : El) (⟨bn, bv, bl, bc, bd⟩ : El) = false) (E : World) (hE : Below (w.heap.size + 2) W0 E) => show MePost (⟨an, av, al, ac, ad⟩ : El) (⟨bn, bv, bl, bc, bd⟩ : El) w (.returned (.tuple #[.agg #[.bool false, .string ⟨#[]⟩, .int .i64 0, .string ⟨#[]⟩, .slice none 0 0, .int .i64 0, .string ⟨#[]⟩, .slice none 0 0, .int .i64 0], .bool false])) E from ⟨_, [], by rw [h], by rw [mergeR_no h]; exact noEl_has _, by simp, HV.out.trans (hE.mono (by omega))⟩)
    cases hG : G with
    | false =>
      have HMB := Lib.hid (show mergeB (⟨an, av, al, ac, ad⟩ : El) (⟨bn, bv, bl, bc, bd⟩ : El) = false by unfold mergeB; rw [← eG, hG]; rfl)
      have rbx2 := HL2.out _ hbx
      go_wp2_with fail
      exact bodyPost_ret (v := .tuple #[.agg #[.bool false, .string ⟨#[]⟩, .int .i64 0, .string ⟨#[]⟩, .slice none 0 0, .int .i64 0, .string ⟨#[]⟩, .slice none 0 0, .int .i64 0], .bool false]) (by simp [results, Tryd.results8, go_sem, *]) rfl (HNO.out HMB.out _ (show Below (w.heap.size + 2) W0 _ by ((repeat (first | with_reducible assumption | with_reducible exact Below.refl _ _ | refine Below.setCell ?_ (by (first | omega | (simp; omega) | (simp; done) | fail "sml")) _ | refine Below.drew ?_ | refine Below.alloc ?_ (by (first | omega | (simp; omega) | (simp; done) | fail "sml")) _)); first | done | fail "chs")))
    | true =>
      obtain ⟨hva, hvb, hts⟩ : elemV (⟨an, av, al, ac, ad⟩ : El) = true ∧ elemV (⟨bn, bv, bl, bc, bd⟩ : El) = true ∧ varsT av bv = true := by
        have h := eG.symm.trans hG
        simp only [Bool.and_eq_true] at h
        exact ⟨h.1.2, h.2.1.2, h.2.2⟩
      have HGG := Lib.hid (show ∀ c, elemV (mgE (⟨an, av, al, ac, ad⟩ : El) (⟨bn, bv, bl, bc, bd⟩ : El)) = c → mergeB (⟨an, av, al, ac, ad⟩ : El) (⟨bn, bv, bl, bc, bd⟩ : El) = c from fun c hc => by unfold mergeB; rw [← eG, hG, hc]; rfl)
      have hka : al.ks.size ≤ 4096 ∧ ac.ks.size ≤ 4096 := elemV_ks hva
      have hkb : bl.ks.size ≤ 4096 ∧ bc.ks.size ≤ 4096 := elemV_ks hvb
      have hpa := elemV_pp hva
      have hpb := elemV_pp hvb
      clear eG hva hvb hts
      obtain ⟨ML, eL⟩ : ∃ M, M = mgX al bl := ⟨_, rfl⟩
      obtain ⟨MC, eC⟩ : ∃ M, M = mgX ac bc := ⟨_, rfl⟩
      have CL := Lib.hid (fun (E : World) (hE : Below (w.heap.size + 3) W0 E) => (mergeExprs_any al bl _ _ B E (HPL.out E hE).1 (HPL.out E hE).2 (by have := hE.size; omega) (by omega) (by omega)).mono (R' := fun en w' => ∃ p c F, en = .returned (.agg #[.int .i64 ML.op, .string ML.a, .slice p ML.ks.list.length c]) ∧ RowKit.Hid (∀ X, Below w'.heap.size w' X → ML.ks.Own X (.slice p ML.ks.list.length c) F) ∧ RowKit.Hid (∀ x ∈ F, E.heap.size ≤ x ∧ x < w'.heap.size) ∧ Below E.heap.size E w') fun en w' h => by rw [eL]; obtain ⟨p, c, F, he, ho, hF, hb⟩ := h; exact ⟨p, c, F, he, Lib.hid fun X hX => ho.below hX, Lib.hid fun x hx => ⟨hF x hx, ho.lt x hx⟩, hb⟩)
      have CC := Lib.hid (fun (E : World) (hE : Below (w.heap.size + 3) W0 E) => (mergeExprs_any ac bc _ _ B E (HPC.out E hE).1 (HPC.out E hE).2 (by have := hE.size; omega) (by omega) (by omega)).mono (R' := fun en w' => ∃ p c F, en = .returned (.agg #[.int .i64 MC.op, .string MC.a, .slice p MC.ks.list.length c]) ∧ RowKit.Hid (∀ X, Below w'.heap.size w' X → MC.ks.Own X (.slice p MC.ks.list.length c) F) ∧ RowKit.Hid (∀ x ∈ F, E.heap.size ≤ x ∧ x < w'.heap.size) ∧ Below E.heap.size E w') fun en w' h => by rw [eC]; obtain ⟨p, c, F, he, ho, hF, hb⟩ := h; exact ⟨p, c, F, he, Lib.hid fun X hX => ho.below hX, Lib.hid fun x hx => ⟨hF x hx, ho.lt x hx⟩, hb⟩)
      have HSZ := Lib.hid (And.intro (mgX_ks (a := al) (b := bl) (m := 4096) (by omega) (by omega)) (mgX_ks (a := ac) (b := bc) (m := 4096) (by omega) (by omega)))
      have HEL := Lib.hid (And.intro eL eC)
      clear hka hkb hpa hpb eL eC
      have rb0 := Below.refl W1.heap.size W1
      have hz1 := hbx.size
      have rbx2 := HL2.out _ hbx
      have zr1 : w.heap.size + 3 ≤ W1.heap.size := by omega
      go_upto_region 3 with fail
      go_cut [6] (fun s wx => FillV ⟨true, orS av bv, ML, MC, 0⟩ W1.heap.size W1 s wx)
      case first =>
        go_region_held3 (fun w' => w'.cell? ⟨w.heap.size, 0, none⟩ = some (.bool an) ∧ w'.cell? ⟨w.heap.size, 1, none⟩ = some (.string av) ∧ w'.cell? ⟨w.heap.size, 2, none⟩ = some (.int .i64 al.op) ∧ w'.cell? ⟨w.heap.size, 3, none⟩ = some (.string al.a) ∧ w'.cell? ⟨w.heap.size, 4, none⟩ = some (.slice pa al.ks.list.length ca) ∧ w'.cell? ⟨w.heap.size, 5, none⟩ = some (.int .i64 ac.op) ∧ w'.cell? ⟨w.heap.size, 6, none⟩ = some (.string ac.a) ∧ w'.cell? ⟨w.heap.size, 7, none⟩ = some (.slice qa ac.ks.list.length da) ∧ w'.cell? ⟨w.heap.size, 8, none⟩ = some (.int .i64 ad) ∧ w'.cell? ⟨w.heap.size + 1, 0, none⟩ = some (.bool bn) ∧ w'.cell? ⟨w.heap.size + 1, 1, none⟩ = some (.string bv) ∧ w'.cell? ⟨w.heap.size + 1, 2, none⟩ = some (.int .i64 bl.op) ∧ w'.cell? ⟨w.heap.size + 1, 3, none⟩ = some (.string bl.a) ∧ w'.cell? ⟨w.heap.size + 1, 4, none⟩ = some (.slice pb bl.ks.list.length cb) ∧ w'.cell? ⟨w.heap.size + 1, 5, none⟩ = some (.int .i64 bc.op) ∧ w'.cell? ⟨w.heap.size + 1, 6, none⟩ = some (.string bc.a) ∧ w'.cell? ⟨w.heap.size + 1, 7, none⟩ = some (.slice qb bc.ks.list.length db) ∧ w'.cell? ⟨w.heap.size + 1, 8, none⟩ = some (.int .i64 bd))
          (exact HK2.out _ (rbx2.trans (Below.mono (show Below W1.heap.size W1 _ by ((repeat (first | with_reducible assumption | with_reducible exact Below.refl _ _ | refine Below.setCell ?_ (by (first | omega | (simp; omega) | (simp; done) | fail "sml")) _ | refine Below.drew ?_ | refine Below.alloc ?_ (by (first | omega | (simp; omega) | (simp; done) | fail "sml")) _)); first | done | fail "chs")) (by omega))))
          (first
            | (go_at_call 28; with_reducible refine (orStr_any av bv _ _ (by simp [go_sem]) (by simp [go_sem])).mono ?_; rintro en wo ⟨rfl, hb⟩; ((first | (have yy := eearly hb; obtain ⟨y0, y1, y2, y3, y4, y5, y6, y7, y8, y9, y10, y11, y12, y13, y14, y15, y16, y17, y18⟩ := yy) | (have yy := eearlyD hb; obtain ⟨y0, y1, y2, y3, y4, y5, y6, y7, y8, y9, y10, y11, y12, y13, y14, y15, y16, y17, y18⟩ := yy) | (have yy := eearly (below_past hb); obtain ⟨y0, y1, y2, y3, y4, y5, y6, y7, y8, y9, y10, y11, y12, y13, y14, y15, y16, y17, y18⟩ := yy) | (have yy := eearlyD (below_past hb); obtain ⟨y0, y1, y2, y3, y4, y5, y6, y7, y8, y9, y10, y11, y12, y13, y14, y15, y16, y17, y18⟩ := yy) | (have yy := eearlyD2 hb; obtain ⟨y0, y1, y2, y3, y4, y5, y6, y7, y8, y9, y10, y11, y12, y13, y14, y15, y16, y17, y18⟩ := yy) | (have yy := elater hb ⟨y0, y1, y2, y3, y4, y5, y6, y7, y8, y9, y10, y11, y12, y13, y14, y15, y16, y17, y18⟩; obtain ⟨y0, y1, y2, y3, y4, y5, y6, y7, y8, y9, y10, y11, y12, y13, y14, y15, y16, y17, y18⟩ := yy) | skip); (try simp only [World.size_alloc] at y0 y1 y2 y3 y4 y5 y6 y7 y8 y9 y10 y11 y12 y13 y14 y15 y16 y17 y18)); have ro := Below.trans (show Below W1.heap.size W1 _ by ((repeat (first | with_reducible assumption | with_reducible exact Below.refl _ _ | refine Below.setCell ?_ (by (first | omega | (simp; omega) | (simp; done) | fail "sml")) _ | refine Below.drew ?_ | refine Below.alloc ?_ (by (first | omega | (simp; omega) | (simp; done) | fail "sml")) _)); first | done | fail "chs")) (hb.mono (by (first | omega | (simp; omega) | (simp; done) | fail "sml"))); have zo := ro.size; have ro0 := Below.refl wo.heap.size wo; clear hb)
            | (go_at_call 29; with_reducible refine (CL.out _ (hbx.trans (Below.mono (show Below W1.heap.size W1 _ by ((repeat (first | with_reducible assumption | with_reducible exact Below.refl _ _ | refine Below.setCell ?_ (by (first | omega | (simp; omega) | (simp; done) | fail "sml")) _ | refine Below.drew ?_ | refine Below.alloc ?_ (by (first | omega | (simp; omega) | (simp; done) | fail "sml")) _)); first | done | fail "chs")) (by omega)))).mono ?_; rintro en wl ⟨pl, cl, FL, rfl, HOL, HFL, hb⟩; ((first | (have yy := eearly hb; obtain ⟨y0, y1, y2, y3, y4, y5, y6, y7, y8, y9, y10, y11, y12, y13, y14, y15, y16, y17, y18⟩ := yy) | (have yy := eearlyD hb; obtain ⟨y0, y1, y2, y3, y4, y5, y6, y7, y8, y9, y10, y11, y12, y13, y14, y15, y16, y17, y18⟩ := yy) | (have yy := eearly (below_past hb); obtain ⟨y0, y1, y2, y3, y4, y5, y6, y7, y8, y9, y10, y11, y12, y13, y14, y15, y16, y17, y18⟩ := yy) | (have yy := eearlyD (below_past hb); obtain ⟨y0, y1, y2, y3, y4, y5, y6, y7, y8, y9, y10, y11, y12, y13, y14, y15, y16, y17, y18⟩ := yy) | (have yy := eearlyD2 hb; obtain ⟨y0, y1, y2, y3, y4, y5, y6, y7, y8, y9, y10, y11, y12, y13, y14, y15, y16, y17, y18⟩ := yy) | (have yy := elater hb ⟨y0, y1, y2, y3, y4, y5, y6, y7, y8, y9, y10, y11, y12, y13, y14, y15, y16, y17, y18⟩; obtain ⟨y0, y1, y2, y3, y4, y5, y6, y7, y8, y9, y10, y11, y12, y13, y14, y15, y16, y17, y18⟩ := yy) | skip); (try simp only [World.size_alloc] at y0 y1 y2 y3 y4 y5 y6 y7 y8 y9 y10 y11 y12 y13 y14 y15 y16 y17 y18)); have rl := Below.trans (show Below W1.heap.size W1 _ by ((repeat (first | with_reducible assumption | with_reducible exact Below.refl _ _ | refine Below.setCell ?_ (by (first | omega | (simp; omega) | (simp; done) | fail "sml")) _ | refine Below.drew ?_ | refine Below.alloc ?_ (by (first | omega | (simp; omega) | (simp; done) | fail "sml")) _)); first | done | fail "chs")) (hb.mono (by (first | omega | (simp; omega) | (simp; done) | fail "sml"))); have zl := rl.size; have rl0 := Below.refl wl.heap.size wl; clear hb)
            | (go_at_call 29; with_reducible refine (CC.out _ (hbx.trans (Below.mono (show Below W1.heap.size W1 _ by ((repeat (first | with_reducible assumption | with_reducible exact Below.refl _ _ | refine Below.setCell ?_ (by (first | omega | (simp; omega) | (simp; done) | fail "sml")) _ | refine Below.drew ?_ | refine Below.alloc ?_ (by (first | omega | (simp; omega) | (simp; done) | fail "sml")) _)); first | done | fail "chs")) (by omega)))).mono ?_; rintro en wc ⟨pc, cc, FC, rfl, HOC, HFC, hb⟩; ((first | (have yy := eearly hb; obtain ⟨y0, y1, y2, y3, y4, y5, y6, y7, y8, y9, y10, y11, y12, y13, y14, y15, y16, y17, y18⟩ := yy) | (have yy := eearlyD hb; obtain ⟨y0, y1, y2, y3, y4, y5, y6, y7, y8, y9, y10, y11, y12, y13, y14, y15, y16, y17, y18⟩ := yy) | (have yy := eearly (below_past hb); obtain ⟨y0, y1, y2, y3, y4, y5, y6, y7, y8, y9, y10, y11, y12, y13, y14, y15, y16, y17, y18⟩ := yy) | (have yy := eearlyD (below_past hb); obtain ⟨y0, y1, y2, y3, y4, y5, y6, y7, y8, y9, y10, y11, y12, y13, y14, y15, y16, y17, y18⟩ := yy) | (have yy := eearlyD2 hb; obtain ⟨y0, y1, y2, y3, y4, y5, y6, y7, y8, y9, y10, y11, y12, y13, y14, y15, y16, y17, y18⟩ := yy) | (have yy := elater hb ⟨y0, y1, y2, y3, y4, y5, y6, y7, y8, y9, y10, y11, y12, y13, y14, y15, y16, y17, y18⟩; obtain ⟨y0, y1, y2, y3, y4, y5, y6, y7, y8, y9, y10, y11, y12, y13, y14, y15, y16, y17, y18⟩ := yy) | skip); (try simp only [World.size_alloc] at y0 y1 y2 y3 y4 y5 y6 y7 y8 y9 y10 y11 y12 y13 y14 y15 y16 y17 y18)); have rc := Below.trans (show Below W1.heap.size W1 _ by ((repeat (first | with_reducible assumption | with_reducible exact Below.refl _ _ | refine Below.setCell ?_ (by (first | omega | (simp; omega) | (simp; done) | fail "sml")) _ | refine Below.drew ?_ | refine Below.alloc ?_ (by (first | omega | (simp; omega) | (simp; done) | fail "sml")) _)); first | done | fail "chs")) (hb.mono (by (first | omega | (simp; omega) | (simp; done) | fail "sml"))); have zc := rc.size; have rlc := Below.trans (show Below wl.heap.size wl _ by ((repeat (first | with_reducible assumption | with_reducible exact Below.refl _ _ | refine Below.setCell ?_ (by (first | omega | (simp; omega) | (simp; done) | fail "sml")) _ | refine Below.drew ?_ | refine Below.alloc ?_ (by (first | omega | (simp; omega) | (simp; done) | fail "sml")) _)); first | done | fail "chs")) (hb.mono (by (first | omega | (simp; omega) | (simp; done) | fail "sml"))); have zlc := rlc.size; have rc0 := Below.refl wc.heap.size wc; clear hb)
            | fail "no arm")
        all_goals (go_wp2_with fail; go_meet)
        all_goals (have hdj : ∀ x ∈ FL, x ∉ FC := fun x h1 h2 => by have g1 := (HFL.out x h1).2; have g2 := (HFC.out x h2).1; (try simp at g2); omega)
        all_goals (have hlo : ∀ x ∈ FL ++ FC, W1.heap.size ≤ x := fun x hx => by rcases List.mem_append.1 hx with hx | hx; (have g := (HFL.out x hx).1; (try simp at g); omega); (have g := (HFC.out x hx).1; (try simp at g); omega))
        all_goals (have hhas : (⟨true, orS av bv, ML, MC, 0⟩ : El).Has (.agg #[.bool true, .string (orS av bv), .int .i64 ML.op, .string ML.a, .slice pl ML.ks.list.length cl, .int .i64 MC.op, .string MC.a, .slice pc MC.ks.list.length cc, .int .i64 0]) (FL ++ FC) wc := ⟨_, _, FL, FC, rfl, rfl, hdj, HOL.out _ rlc, HOC.out _ rc0⟩)
        all_goals refine ⟨?_, _, rfl, ?_⟩
        all_goals first
          | (simp [go_sem]; done)
          | (simpa [go_sem] using y11)
          | with_reducible exact efresh_of (R := ⟨true, orS av bv, ML, MC, 0⟩) (by omega) hhas hlo rc
          | with_reducible exact efilled_of (R := ⟨true, orS av bv, ML, MC, 0⟩) (by omega) y0 ⟨_, y1⟩ ⟨_, y2⟩ ⟨_, y3⟩ ⟨_, y4⟩ ⟨_, y5⟩ ⟨_, y6⟩ ⟨_, y7⟩ ⟨_, y8⟩ ⟨_, y9⟩ hhas hlo (fun hx => by rcases List.mem_append.1 hx with hx | hx; (have g1 := (HFL.out _ hx).1; have g2 := (HFL.out _ hx).2; first | omega | (simp at g1; omega) | (simp at g1; done)); (have g1 := (HFC.out _ hx).1; have g2 := (HFC.out _ hx).2; first | omega | (simp at g1; omega) | (simp at g1; done))) rc
          | fail "end"
      case rest =>
        clear rbx2 rb0
        clear x0 x1 x2 x3 x4 x5 x6 x7 x8 x9 x10 x11 x12 x13 x14 x15 x16 x17 z0 z1 z2 z3 z4 z5 z6 z7 z8 f0 f1 f2 f3 f4 f5 f6 f7 f8
        obtain ⟨⟨k, p, c, q, d, F, rfl, _, hk, hL, hF, hn, hb3⟩, k', hk', hfz⟩ := hcut
        cases hk'
        rename World => W2
        have hb4 : Below (w.heap.size + 3) W0 W2 := hbx.trans (hb3.mono zr1)
        have hz2 := hb4.size
        have HLV := Lib.hid hL
        have HFK := Lib.hid (And.intro hF hn)
        have HKL := Lib.hid (show w.heap.size + 3 ≤ k by omega)
        obtain ⟨hkw, hcs, hhas⟩ := hL
        obtain ⟨x0, x1, x2, x3, x4, x5, x6, x7, x8, x9, x10, x11, x12, x13, x14, x15, x16, x17⟩ := HK2.out _ (HL2.out _ hb4)
        obtain ⟨z0, z1, z2, z3, z4, z5, z6, z7, z8, f0, f1, f2, f3, f4, f5, f6, f7, f8⟩ := HKZ.out _ hb4
        
        obtain ⟨v0, v1, v2, v3, v4, v5, v6, v7, v8⟩ : W2.cell? ⟨k, 0, none⟩ = some (.bool true) ∧ W2.cell? ⟨k, 1, none⟩ = some (.string (orS av bv)) ∧ W2.cell? ⟨k, 2, none⟩ = some (.int .i64 ML.op) ∧ W2.cell? ⟨k, 3, none⟩ = some (.string ML.a) ∧ W2.cell? ⟨k, 4, none⟩ = some (.slice p ML.ks.list.length c) ∧ W2.cell? ⟨k, 5, none⟩ = some (.int .i64 MC.op) ∧ W2.cell? ⟨k, 6, none⟩ = some (.string MC.a) ∧ W2.cell? ⟨k, 7, none⟩ = some (.slice q MC.ks.list.length d) ∧ W2.cell? ⟨k, 8, none⟩ = some (.int .i64 0) := ⟨hcs 0 _ rfl, hcs 1 _ rfl, hcs 2 _ rfl, hcs 3 _ rfl, hcs 4 _ rfl, hcs 5 _ rfl, hcs 6 _ rfl, hcs 7 _ rfl, hcs 8 _ rfl⟩
        clear hcs hF hn
        have HSV := Lib.hid (fun (v : ByteArray) (hv : v.size ≤ 1048576) => (by
          have h1 := mgX_sml (a := al) (b := bl) ⟨hs.2.1, hs.2.2.1⟩ ⟨hs'.2.1, hs'.2.2.1⟩
          have h2 := mgX_sml (a := ac) (b := bc) ⟨hs.2.2.2.1, hs.2.2.2.2⟩ ⟨hs'.2.2.2.1, hs'.2.2.2.2⟩
          rw [← HEL.out.1] at h1
          rw [← HEL.out.2] at h2
          exact ⟨hv, h1.1, h1.2, h2.1, h2.2⟩ : (⟨true, v, ML, MC, 0⟩ : El).Sm))
        have HPL2 := Lib.hid (show ∀ x ∈ F, w.heap.size + 3 ≤ x from fun x hx => by have := HFK.out.1 x hx; omega)
        have HR := Lib.hid (show mgE (⟨an, av, al, ac, ad⟩ : El) (⟨bn, bv, bl, bc, bd⟩ : El) = ⟨true, orS av bv, ML, MC, 0⟩ by unfold mgE orS; rw [HEL.out.1, HEL.out.2])
        go_wp2_with fail
        have HH5 := Lib.hid hhas
        refine Calls.mono (elemValid_any (⟨true, (orS av bv), ML, MC, 0⟩ : El) _ W2.heap.size _ hhas.at (Nat.le_refl _) (HSV.out (orS av bv) (orS_sm hs.1 hs'.1)) (HVV.out.below (HV.out.trans (hb4.mono (by omega))))) ?_
        rintro en w5 ⟨rfl, hb⟩
        have h5 := hb4.trans (hb.mono (by have := hb4.size; omega))
        have h52 := HL2.out _ h5
        have HH6 := Lib.hid (HH5.out.below hb)
        have t0 := keepc hb hkw v0
        have t1 := keepc hb hkw v1
        have t2 := keepc hb hkw v2
        have t3 := keepc hb hkw v3
        have t4 := keepc hb hkw v4
        have t5 := keepc hb hkw v5
        have t6 := keepc hb hkw v6
        have t7 := keepc hb hkw v7
        have t8 := keepc hb hkw v8
        clear hb hhas v0 v1 v2 v3 v4 v5 v6 v7 v8
        clear x0 x1 x2 x3 x4 x5 x6 x7 x8 x9 x10 x11 x12 x13 x14 x15 x16 x17 z0 z1 z2 z3 z4 z5 z6 z7 z8 f0 f1 f2 f3 f4 f5 f6 f7 f8
        obtain ⟨x0, x1, x2, x3, x4, x5, x6, x7, x8, x9, x10, x11, x12, x13, x14, x15, x16, x17⟩ := HK2.out _ (HL2.out _ h5)
        obtain ⟨z0, z1, z2, z3, z4, z5, z6, z7, z8, f0, f1, f2, f3, f4, f5, f6, f7, f8⟩ := HKZ.out _ h5
        cases hve : elemV (⟨true, (orS av bv), ML, MC, 0⟩ : El) with
        | false =>
          have HMB := Lib.hid (HGG.out false (by rw [HR.out]; exact hve))
          clear hve
          go_wp2_with fail
          exact bodyPost_ret (v := .tuple #[.agg #[.bool false, .string ⟨#[]⟩, .int .i64 0, .string ⟨#[]⟩, .slice none 0 0, .int .i64 0, .string ⟨#[]⟩, .slice none 0 0, .int .i64 0], .bool false]) (by simp [results, Tryd.results8, go_sem, *]) rfl (HNO.out HMB.out _ (show Below (w.heap.size + 2) W0 _ by ((repeat (first | with_reducible assumption | with_reducible exact Below.refl _ _ | refine Below.setCell ?_ (by (first | omega | (simp; omega) | (simp; done) | fail "sml")) _ | refine Below.drew ?_ | refine Below.alloc ?_ (by (first | omega | (simp; omega) | (simp; done) | fail "sml")) _)); first | done | fail "chs")))
        | true =>
          have HMB := Lib.hid (HGG.out true (by rw [HR.out]; exact hve))
          clear hve
          have HYES := Lib.hid (fun (E : World) (hE : Chg [w.heap.size + 1 + 1] w5 E) (hE2 : Below (w.heap.size + 2) W0 E) => show MePost (⟨an, av, al, ac, ad⟩ : El) (⟨bn, bv, bl, bc, bd⟩ : El) w (.returned (.tuple #[.agg #[.bool true, .string (orS av bv), .int .i64 ML.op, .string ML.a, .slice p ML.ks.list.length c, .int .i64 MC.op, .string MC.a, .slice q MC.ks.list.length d, .int .i64 0], .bool true])) E from ⟨_, F, by rw [HMB.out], by rw [mergeR_yes HMB.out, HR.out]; exact HH6.out.chg hE (fun x hx => by have := HPL2.out x hx; simp; omega), fun x hx => by have := HPL2.out x hx; omega, HV.out.trans (hE2.mono (by omega))⟩)
          go_wp2_with fail
          exact bodyPost_ret (v := .tuple #[.agg #[.bool true, .string (orS av bv), .int .i64 ML.op, .string ML.a, .slice p ML.ks.list.length c, .int .i64 MC.op, .string MC.a, .slice q MC.ks.list.length d, .int .i64 0], .bool true]) (by simp [results, Tryd.results8, go_sem, *]) rfl (HYES.out _ (by (repeat (first | with_reducible exact Chg.refl _ _ | with_reducible refine Chg.setCell ?_ (by simp) _))) (show Below (w.heap.size + 2) W0 _ by ((repeat (first | with_reducible assumption | with_reducible exact Below.refl _ _ | refine Below.setCell ?_ (by (first | omega | (simp; omega) | (simp; done) | fail "sml")) _ | refine Below.drew ?_ | refine Below.alloc ?_ (by (first | omega | (simp; omega) | (simp; done) | fail "sml")) _)); first | done | fail "chs")))
end Go.Proofs.YtbbemeaojmfndaaDoor
