/- Lemmas on the data and the memory of this program's values: several texts in one. -/
import Derived.Test.YtggpnnoldjpmcaaM3q0p1
namespace Go.Proofs.Ytggpnnoldjpmcaa
open Go.RowKit

theorem endP_ok' {m : Mt} (h : m.Ok) (hp : 0 < m.w.ns.length) : Pairs64 (endP m) := by
  rw [endP_at hp]
  exact ⟨h.1.1 _ (List.getElem_mem _), h.1.1 _ (List.getElem_mem _)⟩
/-- A row's last number, and the rows after it is stored anew. -/
theorem incRow {w : World} {v : Value} {xs : List (List Int)} {F : List Nat} (h : kRI.OwB 43 w v xs F) {k : Nat} (hk : k < xs.length) {a b c : Int} (he : xs[k] = [a, b, c]) :
    ∃ g cap b2 off2 cap2, v = .slice (some ⟨g, 0, none⟩) xs.length cap ∧ cap ≤ maxLen ∧ w.cell? ⟨g, k, none⟩ = some (.slice (some ⟨b2, off2, none⟩) 3 cap2) ∧ 3 ≤ cap2 ∧ w.cell? ⟨b2, off2 + 2, none⟩ = some (.int .i64 c) ∧ w.frozen? ⟨b2, off2 + 2, none⟩ = false ∧ b2 ∈ F ∧
      ∀ c' : Int, kRI.OwB 43 (w.setCell ⟨b2, off2 + 2, none⟩ (.int .i64 c')) v (xs.set k [a, b, c']) F := by
  obtain ⟨g, cap, cs, G, rfl, hc, hg, hgG, hGF, hcell, how, hback⟩ := h.upd hk
  obtain ⟨v', rfl, hs⟩ := kRI_ow.1 how
  rw [he] at hs
  have hs0 := hs
  obtain ⟨p, len, cap2, rfl, hlen, h3, h4, _⟩ := hs0
  obtain rfl : len = 3 := by simpa using hlen
  obtain ⟨b2, off2, rfl, rfl, hl, hf, hx⟩ := hs.elem (k := 2) (by simp)
  have hx2 := hx 0 (.int .i64 c) rfl
  have hc0 := hcell 0 _ rfl
  simp only [Nat.mul_one, Nat.add_zero, kRI_sz] at hx2 hc0
  refine ⟨g, cap, b2, off2, cap2, rfl, hc, hc0, h3, hx2, hf _, hGF _ (by simp), fun c' => hback _ _ ((Chg.refl [b2] w).setCell (p := ⟨b2, off2 + 2, none⟩) (by simp) _) (kRI_ow.2 ⟨_, rfl, ?_⟩)⟩
  have := hs.store (k := 2) (by simp) (fun _ => rfl) 0 (by decide) c' (.int .i64 c') rfl
  simpa using this
theorem incH {xs : List Mt} {k : Nat} (hk : k < xs.length) {w : World} {v : Value} {F : List Nat} (h : kRI.OwB 43 w v (rowsH xs k) F) {I : Nat} (hI : I = (feR xs (k + 1)).idxOf (endP xs[k])) {t : Nat} (ht : t = befN xs (endP xs[k]) k) :
    ∃ g n cap b2 off2 cap2, v = .slice (some ⟨g, 0, none⟩) n cap ∧ I < n ∧ n ≤ 1048576 + xs.length ∧ w.cell? ⟨g, I, none⟩ = some (.slice (some ⟨b2, off2, none⟩) 3 cap2) ∧ w.cell? ⟨b2, off2 + 2, none⟩ = some (.int .i64 (t : Int)) ∧ w.frozen? ⟨b2, off2 + 2, none⟩ = false ∧ b2 ∈ F ∧
      kRI.OwB 43 (w.setCell ⟨b2, off2 + 2, none⟩ (.int .i64 ((t : Int) + 1))) v (rowsK xs (k + 1)) F := by
  subst hI
  subst ht
  have hat := rowsH_at hk
  obtain ⟨hlt, he⟩ := List.getElem?_eq_some_iff.1 hat
  obtain ⟨g, cap, b2, off2, cap2, h1, h2, h3, _, h5, h6, h7, h8⟩ := incRow h hlt he
  refine ⟨g, _, cap, b2, off2, cap2, h1, hlt, ?_, h3, h5, h6, h7, ?_⟩
  · rw [rowsH_len]; have := feR_len xs (k + 1); omega
  · have := h8 ((befN xs (endP xs[k]) k : Int) + 1)
    rw [rowsH_set hk] at this
    exact this
theorem rowsK_len (xs : List Mt) (k : Nat) : (rowsK xs k).length = (feR xs k).length := by simp [rowsK]

set_option maxRecDepth 100000 in
set_option maxHeartbeats 8000000 in
theorem countEnds_any (xs : List Mt) (v : Value) (B : Nat) (w : World) (hv : kMt.Rd B w v xs) (hB : B ≤ w.heap.size) (hn : xs.length + sumMt xs ≤ 1048576) (hok : ∀ x ∈ xs, x.Ok) :
    Calls Try.prog 36 #[v] w (RsPost (ceR xs) w) := by
  obtain ⟨p, cap, rfl⟩ := hv.form
  obtain ⟨_, hm1, hm2⟩ := hv.max
  unfold maxLen at hm2
  have HV := Lib.hid hv
  have HOK := Lib.hid hok
  have hmm := @run_makeMap Try.prog
  have HT := Lib.hid (show Try.prog.underlying 118 = some (.map 113 3) from Try.underlying118)
  have HZ := Lib.hid (show ∀ w, (zeroValue 3).run Try.prog w = .ok (.int .i64 0) w from fun w => by kernel_rfl)
  clear hv hok
  go_enter Try.func36, Try.ntmps36
  go_wp2_with fail
  refine (haveShape_any xs _ B w HV.out hB (by omega)).mono ?_
  rintro en w1 ⟨rfl, r1⟩
  cases hE : xs.all shP with
  | false =>
    have HR := Lib.hid (show ceR xs = [] by unfold ceR; rw [hE]; rfl)
    clear hE
    go_wp2_with fail
    go_ret
    exact ⟨_, [], rfl, by rw [HR.out]; exact (Kd.OwB.nil kRI 43 _ _).ow, by simp, r1⟩
  | true =>
    have HR := Lib.hid (rowsK_end xs hE)
    have HSH := Lib.hid (List.all_eq_true.1 hE)
    have s1 := r1.size
    obtain ⟨W2, eW2⟩ : ∃ W2, W2 = w1.alloc (.map #[] 0) := ⟨_, rfl⟩
    have k2 : Below w1.heap.size w1 W2 := by rw [eW2]; exact (Below.refl _ _).alloc (Nat.le_refl _) _
    have r2 := r1.trans (k2.mono s1)
    have hm2' : IMap W2 w1.heap.size [] (ixV []) := by rw [eW2]; exact IMap.made w1 (ixV [])
    have EW2 := Lib.hid eW2
    clear eW2 hE
    go_upto_region 5 with fail
    rw [← EW2.out]
    go_wp2_with fail
    go_loopw [4, 16] (fun cp i wr => ∃ (k : Nat) (F : List Nat), k ≤ xs.length ∧ i = .int .i64 k ∧ RowKit.Hid (kRI.OwB 43 wr cp (rowsK xs k) F) ∧ RowKit.Hid (∀ y ∈ F, w.heap.size ≤ y ∧ y ≠ w1.heap.size) ∧ RowKit.Hid (IMap wr w1.heap.size (feR xs k).reverse (ixV (feR xs k))) ∧ RowKit.Hid (Below w.heap.size w wr)) (fun _ i _ => xs.length - (intOf i).toNat)
    case atStart => exact ⟨0, [], Nat.zero_le _, rfl, Lib.hid (Kd.OwB.nil kRI _ _ _), Lib.hid (by simp), Lib.hid hm2', Lib.hid r2⟩
    case round =>
      obtain ⟨k, F, hk, rfl, HA, HF, HM, HB⟩ := hrel
      have hsz := HB.out.size
      have hbl := HM.out.lt
      by_cases hlt : k < xs.length
      · have hkl : (k : Int) < (xs.length : Int) := by omega
        have HLT := Lib.hid (show k + 1 ≤ xs.length from hlt)
        have HL0 := Lib.hid hlt
        obtain ⟨b, off, q, d, q2, d2, r, e, rfl, hb, c0, c1, c2, hin⟩ := kMt_get (HV.out.to (HB.out.mono hB) (Nat.le_refl _)) hlt
        have hsx := HSH.out _ (List.getElem_mem hlt)
        have hokx := endP_ok' (HOK.out _ (List.getElem_mem hlt)) (shP_pos hsx)
        have hmem := feR_mem xs (endP (xs[k]'hlt)) k hk
        have hhas := feR_has hlt
        have hnew := rowsH_new hlt
        have hnewf := feR_new hlt
        have hold := rowsH_old hlt
        have holdf := feR_old hlt
        have hincs := fun (E : World) (v : Value) (F : List Nat) (h : kRI.OwB 43 E v (rowsH xs k) F) (I : Nat) (hI : I = (feR xs (k + 1)).idxOf (endP (xs[k]'hlt))) (t : Nat) (ht : t = befN xs (endP (xs[k]'hlt)) k) => incH hlt h hI ht
        obtain ⟨Y, eY⟩ : ∃ Y, Y = endP (xs[k]'hlt) := ⟨_, rfl⟩
        rw [← eY] at hokx hmem hhas hnew hnewf hold holdf hincs
        have hbef := befN_le xs Y k
        obtain ⟨x, ex⟩ : ∃ x, x = xs[k]'hlt := ⟨_, rfl⟩
        rw [← ex] at c0 c1 c2 hin hsx eY
        have hfl := feR_len xs k
        have HP := Lib.hid hokx
        have HMEM := Lib.hid hmem
        have HNEW := Lib.hid hnew
        have HNEWF := Lib.hid hnewf
        have HOLD := Lib.hid hold
        have HOLDF := Lib.hid holdf
        have HINC := Lib.hid hincs
        obtain ⟨W, eW⟩ : ∃ W, W = wr.alloc (.cells #[.slice q x.w.ns.length d, .slice q2 x.w.es.length d2, .slice r x.bs.length e] 52) := ⟨_, rfl⟩
        have kW : Below wr.heap.size wr W := by rw [eW]; exact (Below.refl _ _).alloc (Nat.le_refl _) _
        have m0 : W.cell? ⟨wr.heap.size, 0, none⟩ = some (.slice q x.w.ns.length d) := by rw [eW]; simp [go_sem]
        have m1 : W.cell? ⟨wr.heap.size, 1, none⟩ = some (.slice q2 x.w.es.length d2) := by rw [eW]; simp [go_sem]
        have EW := Lib.hid eW
        have HIN := Lib.hid (show x.w.At B W (.agg #[.slice q x.w.ns.length d, .slice q2 x.w.es.length d2]) by
          obtain ⟨a1, a2, a3, e1, h1, h2, h3⟩ := hin
          cases e1
          exact Wk.At.to ⟨_, _, rfl, h1, h2⟩ (kW.mono (by omega)) (Nat.le_refl _))
        have HEY := Lib.hid eY
        have HSX := Lib.hid hsx
        clear hin hsx eY ex eW hokx hmem hnew hnewf hold holdf hincs
        go_upto_region 8 with fail
        rw [← EW.out]
        go_wp2_with fail
        refine (endsOf_any x _ B W HIN.out (by have := kW.size; omega) HSX.out).mono ?_
        rintro en wa ⟨rfl, hba⟩
        rw [← HEY.out]
        obtain ⟨W3, eW3⟩ : ∃ W3, W3 = wa.alloc (.cells #[.int .i64 Y.1, .int .i64 Y.2] 113) := ⟨_, rfl⟩
        have kW3 : Below wa.heap.size wa W3 := by rw [eW3]; exact (Below.refl _ _).alloc (Nat.le_refl _) _
        have n0 : W3.cell? ⟨wa.heap.size, 0, none⟩ = some (.int .i64 Y.1) := by rw [eW3]; simp [go_sem]
        have n1 : W3.cell? ⟨wa.heap.size, 1, none⟩ = some (.int .i64 Y.2) := by rw [eW3]; simp [go_sem]
        have hsW := kW.size
        have hsa := hba.size
        have r3 : Below wr.heap.size wr W3 := kW.trans ((hba.mono hsW).trans (kW3.mono (by omega)))
        have hs3 := r3.size
        have HM3 := Lib.hid (HM.out.chg (G := []) (Chg.of_below r3 []) (by simp))
        have HA3 := Lib.hid (HA.out.below r3)
        have HB3 := Lib.hid (HB.out.trans (r3.mono hsz))
        have hs3a : wa.heap.size < W3.heap.size := by rw [eW3]; simp
        have EW3 := Lib.hid eW3
        unfold endV
        clear hba kW3 eW3 m0 m1 c0 c1 c2
        go_upto_region 9 with fail
        rw [← EW3.out]
        obtain ⟨pc, cc, rfl⟩ := HA3.out.form
        rw [rowsK_len]
        rcases run_lookup2I HT.out HZ.out HM3.out HP.out with ⟨hrun, hnm⟩ | ⟨hrun, hmm2⟩
        · have hb0 : befN xs Y k = 0 := by
            by_cases h : befN xs Y k = 0
            · exact h
            · exact absurd (HMEM.out.2 h) (by simpa using hnm)
          have hI : (feR xs k).length = (feR xs (k + 1)).idxOf Y := by
            rw [HNEWF.out hb0, List.idxOf_append, if_neg (by simpa using hnm)]; simp
          obtain ⟨wu, hru, hIu, hCu⟩ := run_updateI HT.out HM3.out HP.out hnm (.int .i64 ((feR xs k).length : Int))
          have o0 := hCu.cellOf (by simp; omega) n0
          have o1 := hCu.cellOf (by simp; omega) n1
          have hsu := hCu.size
          obtain ⟨W4, eW4⟩ : ∃ W4, W4 = (wu.alloc (.cells #[.int .i64 Y.1, .int .i64 Y.2, .int .i64 0] 3)).alloc (.cells #[.slice (some ⟨wu.heap.size, 0, none⟩) 3 3] 43) := ⟨_, rfl⟩
          have k4 : Below wu.heap.size wu W4 := by rw [eW4]; exact ((Below.refl _ _).alloc (Nat.le_refl _) _).alloc (by simp) _
          have HAu := HA3.out.chg hCu (fun y hy => by have := HF.out y hy; simp; exact this.2)
          have HAP := Lib.hid (appRow (HAu.below k4) 64 [Y.1, Y.2, 0] (some ⟨wu.heap.size, 0, none⟩) 3 3 [wu.heap.size] (wu.heap.size + 1) 1 (by rw [eW4]; exact (own3 wu Y.1 Y.2 0 _).below ((Below.refl _ _).alloc (Nat.le_refl _) _)) (fun y hy hy2 => by have := HAu.lt y hy; simp at hy2; omega) (by rw [eW4]; simp [go_sem]) (by rw [rowsK_len]; omega))
          have HIu := Lib.hid (show IMap wu w1.heap.size (feR xs (k + 1)).reverse (ixV (feR xs (k + 1))) by
            rw [HNEWF.out hb0, List.reverse_append]
            exact hIu.congr (ix_app (by simpa using hnm)))
          have HBu := Lib.hid (HB3.out.trans (hCu.below (B := w.heap.size) (by omega) (by simp; omega)))
          have hrun : (Instr.lookup 118 (.map (some w1.heap.size)) (.agg #[.int .i64 Y.1, .int .i64 Y.2]) true).run Try.prog W3 = .ok (.tuple #[.int .i64 0, .bool false]) W3 := hrun
          have hru : (Instr.mapUpdate 118 (.map (some w1.heap.size)) (.agg #[.int .i64 Y.1, .int .i64 Y.2]) (.int .i64 ((feR xs k).length : Int))).run Try.prog W3 = .ok () wu := hru
          have HNW := Lib.hid (HNEW.out hb0)
          have HII := Lib.hid hI
          have HB0 := Lib.hid hb0
          have hs4 := k4.size
          have HK4 := Lib.hid k4
          have EW4 := Lib.hid eW4
          rw [rowsK_len] at HAP
          clear hnm hb0 hI hIu hCu eW4 k4 HAu
          go_upto_region 14 with (at_builtin; rw [← EW4.out]; refine wpApp rfl (.tmp 36) (.tmp 42) 64 rfl _ _ rfl rfl _ HAP.out ?_; rintro v3 w4 hr; have HR9 := Lib.hid hr; clear hr)
          obtain ⟨F', hF1, hF2, hF3⟩ := HR9.out
          rw [← HNW.out] at hF1
          obtain ⟨g, n, cap', b2, off2, cap2, rfl, hIn, hn2, p0, p1, p2, hbF, hO5⟩ := HINC.out _ _ _ hF1 _ HII.out 0 HB0.out.symm
          have hIn' : ((feR xs k).length : Int) < (n : Int) := by omega
          have HF' := Lib.hid (show ∀ y ∈ F', w.heap.size ≤ y ∧ y ≠ w1.heap.size from fun y hy => by
            rcases hF2 y hy with h | h | h
            · exact HF.out y h
            · simp at h; omega
            · omega)
          have hb2 := HF'.out _ hbF
          have HI5 := Lib.hid (((HIu.out.chg (G := []) (Chg.of_below HK4.out []) (by simp)).chg hF3 (fun h => (HF.out _ h).2 rfl)).chg (G := [b2]) (w' := w4.setCell ⟨b2, off2 + 2, none⟩ (.int .i64 ((0 : Nat) + 1))) ((Chg.refl _ _).setCell (by simp) _) (by simp; exact fun e => hb2.2 e.symm))
          have HB5 := Lib.hid (Below.setCell ((HBu.out.trans (HK4.out.mono (by omega))).trans (hF3.below (B := w.heap.size) (by omega) (fun y hy => (HF.out y hy).1))) (p := ⟨b2, off2 + 2, none⟩) hb2.1 (.int .i64 ((0 : Nat) + 1)))
          have HO5 := Lib.hid hO5
          clear hF1 hF2 hF3 hO5
          go_wp2_with fail
          go_roundw
          case rel => exact ⟨k + 1, F', HLT.out, by go_num, HO5, HF', HI5, HB5⟩
          case measure => have := HLT.out; simp [intOf]; omega
        · have hb0 : befN xs Y k ≠ 0 := HMEM.out.1 (by simpa using hmm2)
          obtain ⟨I, eI⟩ : ∃ I, I = (feR xs k).idxOf Y := ⟨_, rfl⟩
          have hI : I = (feR xs (k + 1)).idxOf Y := by rw [HOLDF.out hb0]; exact eI
          have hrun : (Instr.lookup 118 (.map (some w1.heap.size)) (.agg #[.int .i64 Y.1, .int .i64 Y.2]) true).run Try.prog W3 = .ok (.tuple #[.int .i64 (I : Int), .bool true]) W3 := by rw [eI]; exact hrun
          obtain ⟨t, et⟩ : ∃ t, t = befN xs Y k := ⟨_, rfl⟩
          obtain ⟨g, n, cap', b2, off2, cap2, e9, hIn, hn2, p0, p1, p2, hbF, hO5⟩ := HINC.out _ _ _ (by rw [HOLD.out hb0]; exact HA3.out) _ hI t et
          rw [rowsK_len] at e9
          cases e9
          rw [rowsK_len] at hO5
          have hIn' : (I : Int) < ((feR xs k).length : Int) := by omega
          have hb2 := HF.out _ hbF
          have ht9 : IntKind.i64.wrap ((t : Int) + 1) = (t : Int) + 1 := IntWalk.i64_in _ (by omega)
          have HI5 := Lib.hid (show IMap (W3.setCell ⟨b2, off2 + 2, none⟩ (.int .i64 ((t : Int) + 1))) w1.heap.size (feR xs (k + 1)).reverse (ixV (feR xs (k + 1))) by rw [HOLDF.out hb0]; exact HM3.out.chg (G := [b2]) ((Chg.refl _ _).setCell (by simp) _) (by simp; exact fun e => hb2.2 e.symm))
          have HB5 := Lib.hid (Below.setCell HB3.out (p := ⟨b2, off2 + 2, none⟩) hb2.1 (.int .i64 ((t : Int) + 1)))
          have HO5 := Lib.hid hO5
          clear hmm2 hb0 eI hI et hO5
          go_wp2_with fail
          go_roundw
          case rel => exact ⟨k + 1, F, HLT.out, by go_num, HO5, HF, HI5, HB5⟩
          case measure => have := HLT.out; simp [intOf]; omega
      · obtain rfl : k = xs.length := by omega
        have hkl : ¬ (xs.length : Int) < (xs.length : Int) := by omega
        have HO2 := Lib.hid HA.out.ow
        go_wp2_with fail
        go_ret
        exact ⟨_, F, rfl, by rw [← HR.out]; exact HO2.out, fun y hy => (HF.out y hy).1, HB.out⟩
end Go.Proofs.Ytggpnnoldjpmcaa
namespace Go.Proofs.Ytggpnnoldjpmcaa
open Go.RowKit

set_option maxRecDepth 100000 in
set_option maxHeartbeats 8000000 in
theorem specCountEnds_any (xs : List Mt) (v : Value) (B : Nat) (w : World) (hv : kMt.Rd B w v xs) (hB : B ≤ w.heap.size) (hn : xs.length + sumMt xs ≤ 1048576) :
    Calls Try.prog 35 #[v] w (RsPost (ceR xs) w) := by
  obtain ⟨p, cap, rfl⟩ := hv.form
  obtain ⟨_, hm1, hm2⟩ := hv.max
  unfold maxLen at hm2
  have HV := Lib.hid hv
  clear hv
  obtain ⟨W, eW⟩ : ∃ W, W = w.alloc (.cells #[] 43) := ⟨_, rfl⟩
  have kW : Below w.heap.size w W := by rw [eW]; exact (Below.refl _ _).alloc (Nat.le_refl _) _
  have EW := Lib.hid eW
  clear eW
  go_enter Try.func35, Try.ntmps35
  go_wp2_with fail
  rw [← EW.out]
  refine (l9Shape_any xs _ B W (HV.out.to (kW.mono hB) (Nat.le_refl _)) (Nat.le_trans hB kW.size) (by omega)).mono ?_
  rintro en w1 ⟨rfl, hb1⟩
  have r1 : Below w.heap.size w w1 := kW.trans (hb1.mono kW.size)
  clear hb1
  cases hE : xs.all shP with
  | false =>
    have HR := Lib.hid (show ceR xs = [] by unfold ceR; rw [hE]; rfl)
    clear hE
    go_wp2_with fail
    go_ret
    exact ⟨_, [], rfl, by rw [HR.out]; exact (Kd.OwB.nil kRI 43 _ _).ow, by simp, r1⟩
  | true =>
    have HR := Lib.hid (show ceR xs = (feR xs xs.length).map (rowE fun y => befN xs y xs.length) by unfold ceR; rw [hE]; rfl)
    have HE := Lib.hid hE
    have HSH := Lib.hid (List.all_eq_true.1 hE)
    clear hE
    go_wp2_with fail
    go_loopw [3, 4] (fun cp i wr => ∃ (k : Nat) (F : List Nat), k ≤ xs.length ∧ i = .int .i64 k ∧ RowKit.Hid (kRI.OwB 43 wr cp ((feR xs k).map (rowE fun y => befN xs y xs.length)) F) ∧ RowKit.Hid (∀ y ∈ F, w.heap.size ≤ y) ∧ RowKit.Hid (Below w.heap.size w wr)) (fun _ i _ => xs.length - (intOf i).toNat)
    case atStart => exact ⟨0, [], Nat.zero_le _, rfl, Lib.hid (Kd.OwB.nil kRI _ _ _), Lib.hid (by simp), Lib.hid r1⟩
    case round =>
      obtain ⟨k, F, hk, rfl, HA, HF, HB⟩ := hrel
      rename World => wo
      have hsz := HB.out.size
      by_cases hlt : k < xs.length
      · have hkl : (k : Int) < (xs.length : Int) := by omega
        have HLT := Lib.hid (show k + 1 ≤ xs.length from hlt)
        go_wp2_with fail
        refine (l9Before_any xs _ k B wo (HV.out.to (HB.out.mono hB) (Nat.le_refl _)) (by omega) hlt HE.out).mono ?_
        rintro en w2 ⟨rfl, hb2⟩
        have HB2 := Lib.hid (HB.out.trans (hb2.mono hsz))
        have HA2 := Lib.hid (HA.out.below hb2)
        have sz2 := HB2.out.size
        clear hb2
        obtain ⟨Y, eY⟩ : ∃ Y, Y = endP (xs[k]'hlt) := ⟨_, rfl⟩
        have hnew : befN xs Y k = 0 → feR xs (k + 1) = feR xs k ++ [Y] := by rw [eY]; exact feR_new hlt
        have hold : befN xs Y k ≠ 0 → feR xs (k + 1) = feR xs k := by rw [eY]; exact feR_old hlt
        rw [← eY]
        obtain ⟨t, et⟩ : ∃ t : Nat, t = befN xs Y k := ⟨_, rfl⟩
        rw [← et] at hnew hold ⊢
        have HEY := Lib.hid eY
        have HET := Lib.hid et
        have HNEW := Lib.hid hnew
        have HOLD := Lib.hid hold
        clear eY et hnew hold
        by_cases ht0 : t = 0
        · have hgt : ¬ (0 : Int) < (t : Int) := by omega
          have HN := Lib.hid (HNEW.out ht0)
          have HT0 := Lib.hid (HET.out.symm.trans ht0)
          subst ht0
          go_wp2_with fail
          go_loopw [5, 6] (fun nn j wr => ∃ i : Nat, k ≤ i ∧ i ≤ xs.length ∧ j = .int .i64 i ∧ nn = .int .i64 (befN xs Y i) ∧ Below w2.heap.size w2 wr) (fun _ j _ => xs.length - (intOf j).toNat)
          case atStart => exact ⟨k, Nat.le_refl _, hk, rfl, by rw [HT0.out]; rfl, Below.refl _ _⟩
          case round =>
            obtain ⟨i, hik, hil, rfl, rfl, hbw⟩ := hrel
            have hsr := hbw.size
            have HBr := Lib.hid (HB2.out.trans (hbw.mono sz2))
            have HBi := Lib.hid hbw
            clear hbw
            obtain ⟨b, off, q, d, q2, d2, r, e, rfl, hb, c0, c1, c2, hin⟩ := kMt_get (HV.out.to (HBr.out.mono hB) (Nat.le_refl _)) hlt
            have hsx := HSH.out _ (List.getElem_mem hlt)
            obtain ⟨x, ex⟩ : ∃ x, x = xs[k]'hlt := ⟨_, rfl⟩
            rw [← ex] at c0 c1 c2 hin hsx
            have HYX := Lib.hid (show Y = endP x by rw [HEY.out, ex])
            by_cases hli : i < xs.length
            · have hil' : (i : Int) < (xs.length : Int) := by omega
              have HIL := Lib.hid (show i + 1 ≤ xs.length from hli)
              have HIK := Lib.hid hik
              obtain ⟨b', off', q', d', q2', d2', r', e', ee, hb', g0, g1, g2, hin'⟩ := kMt_get (HV.out.to (HBr.out.mono hB) (Nat.le_refl _)) hli
              cases ee
              have hsy := HSH.out _ (List.getElem_mem hli)
              have hN := befN_succ hli Y
              have HLE := Lib.hid (show befN xs Y i ≤ 9223372036854775806 from Nat.le_trans (befN_le xs Y i) (by omega))
              obtain ⟨y, ey⟩ : ∃ y, y = xs[i]'hli := ⟨_, rfl⟩
              rw [← ey] at g0 g1 g2 hin' hsy hN
              have HIN := Lib.hid hin
              have HIN2 := Lib.hid hin'
              have HN9 := Lib.hid hN
              have HSX := Lib.hid hsx
              have HSY := Lib.hid hsy
              have hbr : b < wr.heap.size := by omega
              have HK := Lib.hid (fun (E : World) (hE : Below wr.heap.size wr E) => (⟨⟨keepc hE hbr c0, keepc hE hbr c1, keepc hE hbr c2⟩, keepc hE hbr g0, keepc hE hbr g1, keepc hE hbr g2⟩ : (E.cell? ⟨b, off + k * 3, none⟩ = some (.slice q x.w.ns.length d) ∧ E.cell? ⟨b, off + k * 3 + 1, none⟩ = some (.slice q2 x.w.es.length d2) ∧ E.cell? ⟨b, off + k * 3 + 2, none⟩ = some (.slice r x.bs.length e)) ∧ E.cell? ⟨b, off + i * 3, none⟩ = some (.slice q' y.w.ns.length d') ∧ E.cell? ⟨b, off + i * 3 + 1, none⟩ = some (.slice q2' y.w.es.length d2') ∧ E.cell? ⟨b, off + i * 3 + 2, none⟩ = some (.slice r' y.bs.length e')))
              have CSM := Lib.hid (fun (E : World) (hE : Below wr.heap.size wr E) => ((by rw [HYX.out]; exact l9Same_any x y (.agg #[.slice q x.w.ns.length d, .slice q2 x.w.es.length d2, .slice r x.bs.length e]) (.agg #[.slice q' y.w.ns.length d', .slice q2' y.w.es.length d2', .slice r' y.bs.length e']) B E (HIN.out.to (hE.mono (by omega)) (Nat.le_refl _)) (HIN2.out.to (hE.mono (by omega)) (Nat.le_refl _)) (by have := hE.size; omega) HSX.out HSY.out) : Calls Try.prog 84 #[.agg #[.slice q x.w.ns.length d, .slice q2 x.w.es.length d2, .slice r x.bs.length e], .agg #[.slice q' y.w.ns.length d', .slice q2' y.w.es.length d2', .slice r' y.bs.length e']] E (fun en w' => en = .returned (.bool (decide (Y = endP y))) ∧ Below E.heap.size E w')))
              have r0 := Below.refl wr.heap.size wr
              clear c0 c1 c2 g0 g1 g2 hin hin' hN hsx hsy ex ey
              go_upto_region 12 with fail
              go_cut [38] (fun s wx => s = .bool (decide (Y = endP y)) ∧ Below wr.heap.size wr wx)
              case first =>
                go_region_held3 (fun w' => (w'.cell? ⟨b, off + k * 3, none⟩ = some (.slice q x.w.ns.length d) ∧ w'.cell? ⟨b, off + k * 3 + 1, none⟩ = some (.slice q2 x.w.es.length d2) ∧ w'.cell? ⟨b, off + k * 3 + 2, none⟩ = some (.slice r x.bs.length e)) ∧ w'.cell? ⟨b, off + i * 3, none⟩ = some (.slice q' y.w.ns.length d') ∧ w'.cell? ⟨b, off + i * 3 + 1, none⟩ = some (.slice q2' y.w.es.length d2') ∧ w'.cell? ⟨b, off + i * 3 + 2, none⟩ = some (.slice r' y.bs.length e'))
                  (exact HK.out _ (show Below wr.heap.size wr _ by ((repeat (first | with_reducible assumption | with_reducible exact Below.refl _ _ | refine Below.setCell ?_ (by (first | omega | (simp; omega) | (simp; done) | fail "sml")) _ | refine Below.drew ?_ | refine Below.alloc ?_ (by (first | omega | (simp; omega) | (simp; done) | fail "sml")) _)); first | done | fail "chs")))
                  (first | (go_at_call 84; with_reducible refine (CSM.out _ (show Below wr.heap.size wr _ by ((repeat (first | with_reducible assumption | with_reducible exact Below.refl _ _ | refine Below.setCell ?_ (by (first | omega | (simp; omega) | (simp; done) | fail "sml")) _ | refine Below.drew ?_ | refine Below.alloc ?_ (by (first | omega | (simp; omega) | (simp; done) | fail "sml")) _)); first | done | fail "chs"))).mono ?_; rintro en wa ⟨rfl, hb⟩; have ra := Below.trans (show Below wr.heap.size wr _ by ((repeat (first | with_reducible assumption | with_reducible exact Below.refl _ _ | refine Below.setCell ?_ (by (first | omega | (simp; omega) | (simp; done) | fail "sml")) _ | refine Below.drew ?_ | refine Below.alloc ?_ (by (first | omega | (simp; omega) | (simp; done) | fail "sml")) _)); first | done | fail "chs")) (hb.mono (by (first | omega | (simp; omega) | (simp; done) | fail "sml"))); have za := ra.size; clear hb) | fail "no arm")
                all_goals (go_wp2_with fail; go_meet)
                all_goals exact ⟨rfl, by ((repeat (first | with_reducible assumption | with_reducible exact Below.refl _ _ | refine Below.setCell ?_ (by (first | omega | (simp; omega) | (simp; done) | fail "sml")) _ | refine Below.drew ?_ | refine Below.alloc ?_ (by (first | omega | (simp; omega) | (simp; done) | fail "sml")) _)); first | done | fail "chs")⟩
              case rest =>
                obtain ⟨rfl, hbx⟩ := hcut
                by_cases hend : endP y = Y
                · have HX := Lib.hid (show befN xs Y (i + 1) = befN xs Y i + 1 by rw [HN9.out, if_pos hend])
                  have HW := Lib.hid (show RowKit.wrap64 ((befN xs Y i : Int) + 1) = ((befN xs Y (i + 1) : Nat) : Int) by rw [HX.out, ← IntWalk.i64_left, IntWalk.i64_in _ (by have := HLE.out; omega)]; rfl)
                  have hd : decide (Y = endP y) = true := decide_eq_true hend.symm
                  rw [hd]
                  clear hend hd
                  go_wp2_with fail
                  go_roundw
                  case rel => exact ⟨i + 1, Nat.le_succ_of_le HIK.out, HIL.out, by go_num, congrArg (Value.int .i64) HW.out, HBi.out.trans (hbx.mono hsr)⟩
                  case measure => have := HIL.out; simp [intOf]; omega
                · have HX := Lib.hid (show befN xs Y (i + 1) = befN xs Y i by rw [HN9.out, if_neg hend]; rfl)
                  have hd : decide (Y = endP y) = false := decide_eq_false (fun h => hend h.symm)
                  rw [hd]
                  clear hend hd
                  go_wp2_with fail
                  go_roundw
                  case rel => exact ⟨i + 1, Nat.le_succ_of_le HIK.out, HIL.out, by go_num, by rw [HX.out], HBi.out.trans (hbx.mono hsr)⟩
                  case measure => have := HIL.out; simp [intOf]; omega
            · obtain rfl : i = xs.length := by omega
              have hnl : ¬ (xs.length : Int) < (xs.length : Int) := by omega
              have px := shP_pos hsx
              have HAr := Lib.hid (HA2.out.below HBi.out)
              obtain ⟨pn, cn, en', hns⟩ : ∃ pn cn, (Value.slice q x.w.ns.length d = .slice pn x.w.ns.length cn) ∧ Sl 1 intCells B wr (.slice pn x.w.ns.length cn) x.w.ns := by obtain ⟨a1, a2, a3, e1, h1, h2, h3⟩ := hin; cases e1; exact ⟨q, d, rfl, h1⟩
              cases en'
              have hmn := hns.max
              unfold maxLen at hmn
              obtain ⟨bn, on, eq1, hbn, n0⟩ := hns.it px
              subst eq1
              obtain ⟨bn', on', eq2, _, n1⟩ := hns.it (show x.w.ns.length - 1 < x.w.ns.length by omega)
              cases eq2
              have hYv : Y = (x.w.ns[0], x.w.ns[x.w.ns.length - 1]) := HYX.out.trans (endP_at px)
              obtain ⟨f, ef⟩ : ∃ f, f = x.w.ns[0] := ⟨_, rfl⟩
              obtain ⟨l, el⟩ : ∃ l, l = x.w.ns[x.w.ns.length - 1] := ⟨_, rfl⟩
              rw [← ef] at n0 hYv
              rw [← el] at n1 hYv
              obtain ⟨m, em⟩ : ∃ m, m = x.w.ns.length - 1 := ⟨_, rfl⟩
              have exn : x.w.ns.length = m + 1 := by omega
              rw [← em] at n1
              rw [exn] at c0 hmn
              simp only [Nat.add_zero] at n0
              have q0 : (0 : Int) < ((m + 1 : Nat) : Int) := by omega
              have q2' : IntKind.i64.wrap (m : Int) = (m : Int) := IntWalk.i64_in _ (by omega)
              have q4 : (m : Int) < (m : Int) + 1 := by omega
              have HROW := Lib.hid (show [f, l, ((befN xs Y xs.length : Nat) : Int)] = (rowE fun y => befN xs y xs.length) Y by unfold rowE; rw [hYv])
              have hbr : b < wr.heap.size := by omega
              have hbnr : bn < wr.heap.size := by omega
              obtain ⟨T, eT⟩ : ∃ T : Int, T = ((befN xs Y xs.length : Nat) : Int) := ⟨_, rfl⟩
              rw [← eT] at HROW ⊢
              have HK := Lib.hid (fun (E : World) (hE : Below wr.heap.size wr E) => (⟨keepc hE hbnr n0, keepc hE hbnr n1⟩ : E.cell? ⟨bn, on, none⟩ = some (.int .i64 f) ∧ E.cell? ⟨bn, on + m, none⟩ = some (.int .i64 l)))
              have HKW := Lib.hid (fun (E : World) (hE : Below w.heap.size wr E) => (⟨keepc hE (by omega) n0, keepc hE (by omega) n1⟩ : E.cell? ⟨bn, on, none⟩ = some (.int .i64 f) ∧ E.cell? ⟨bn, on + m, none⟩ = some (.int .i64 l)))
              have HLEN := Lib.hid (show ((feR xs k).map (rowE fun y => befN xs y xs.length)).length ≤ 1048576 by rw [List.length_map]; have := feR_len xs k; omega)
              have CM := Lib.hid (fun (E : World) (hE : Below wr.heap.size wr E) (ty : TypeId) => appRow (HAr.out.below hE) ty [f, l, T])
              have HFE := Lib.hid (show ∀ (w' : World) (v' : Value) (F' : List Nat), kRI.OwB 43 w' v' ((feR xs k).map (rowE fun y => befN xs y xs.length) ++ [[f, l, T]]) F' → kRI.OwB 43 w' v' ((feR xs (k + 1)).map (rowE fun y => befN xs y xs.length)) F' from fun w' v' F' h => by rw [HN.out, List.map_append]; rw [HROW.out] at h; exact h)
              have hsr2 : w.heap.size ≤ wr.heap.size := HBr.out.size
              have r0 := Below.refl wr.heap.size wr
              clear hns hYv ef el em exn eT n0 n1 hsx px hin HYX ex
              go_upto_region 15 with fail
              go_region_held3 (fun w' => w'.cell? ⟨bn, on, none⟩ = some (.int .i64 f) ∧ w'.cell? ⟨bn, on + m, none⟩ = some (.int .i64 l))
                (first | exact HKW.out _ hk9 | exact HK.out _ (show Below wr.heap.size wr _ by ((repeat (first | with_reducible assumption | with_reducible exact Below.refl _ _ | refine Below.setCell ?_ (by (first | omega | (simp; omega) | (simp; done) | fail "sml")) _ | refine Below.drew ?_ | refine Below.alloc ?_ (by (first | omega | (simp; omega) | (simp; done) | fail "sml")) _)); first | done | fail "chs")))
                (first
                  | (refine step_app_src (by rfl) (.tmp 47) (.tmp 59) 64 (by rfl) _ _ (by rfl) (by rfl) _ (CM.out _ (show Below wr.heap.size wr _ by ((repeat (first | with_reducible assumption | with_reducible exact Below.refl _ _ | refine Below.setCell ?_ (by (first | omega | (simp; omega) | (simp; done) | fail "sml")) _ | refine Below.drew ?_ | refine Below.alloc ?_ (by (first | omega | (simp; omega) | (simp; done) | fail "sml")) _)); first | done | fail "chs")) _ (some ⟨wr.heap.size, 0, none⟩) 3 3 [wr.heap.size] _ _ ((own3 wr f l T _).below ((Below.refl _ _).alloc (Nat.le_refl _) _).drew) (fun y hy hy2 => by have := HAr.out.lt y hy; simp at hy2; omega) (by simp [go_sem]) HLEN.out) ?_; intro vC wC hv; obtain ⟨F', h1, h2, h3⟩ := hv; have hB9 := Lib.hid (below_app HBr.out (show Below wr.heap.size wr _ by ((repeat (first | with_reducible assumption | with_reducible exact Below.refl _ _ | refine Below.setCell ?_ (by (first | omega | (simp; omega) | (simp; done) | fail "sml")) _ | refine Below.drew ?_ | refine Below.alloc ?_ (by (first | omega | (simp; omega) | (simp; done) | fail "sml")) _)); first | done | fail "chs")) h3 HF.out); have hk9 := below_app2 hsr2 (show Below wr.heap.size wr _ by ((repeat (first | with_reducible assumption | with_reducible exact Below.refl _ _ | refine Below.setCell ?_ (by (first | omega | (simp; omega) | (simp; done) | fail "sml")) _ | refine Below.drew ?_ | refine Below.alloc ?_ (by (first | omega | (simp; omega) | (simp; done) | fail "sml")) _)); first | done | fail "chs")) h3 HF.out; have hF9 := Lib.hid (ge_app hsr2 (show Below wr.heap.size wr _ by ((repeat (first | with_reducible assumption | with_reducible exact Below.refl _ _ | refine Below.setCell ?_ (by (first | omega | (simp; omega) | (simp; done) | fail "sml")) _ | refine Below.drew ?_ | refine Below.alloc ?_ (by (first | omega | (simp; omega) | (simp; done) | fail "sml")) _)); first | done | fail "chs")) h2 HF.out (fun y hy => by simp at hy; omega)); have hO9 := Lib.hid (HFE.out _ _ _ h1); clear h1 h2 h3)
                  | fail "no arm")
              go_wp2_with fail
              go_roundw
              case rel => exact ⟨k + 1, F', HLT.out, by go_num, hO9, hF9, hB9⟩
              case measure => have := HLT.out; simp [intOf]; omega
        · have hgt : (0 : Int) < (t : Int) := by omega
          have HO := Lib.hid (HOLD.out ht0)
          clear ht0
          go_wp2_with fail
          go_roundw
          case rel => exact ⟨k + 1, F, HLT.out, by go_num, Lib.hid (by rw [HO.out]; exact HA2.out), HF, HB2⟩
          case measure => have := HLT.out; simp [intOf]; omega
      · obtain rfl : k = xs.length := by omega
        have hkl : ¬ (xs.length : Int) < (xs.length : Int) := by omega
        have HO2 := Lib.hid HA.out.ow
        go_wp2_with fail
        go_ret
        exact ⟨_, F, rfl, by rw [HR.out]; exact HO2.out, HF.out, HB.out⟩
end Go.Proofs.Ytggpnnoldjpmcaa
