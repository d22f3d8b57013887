/- PickCols of the program. -/
import Derived.Test.YtfdkmngkpihpbaaTbPk
import Derived.Test.YtfdkmngkpihpbaaM1q1p1
namespace Go.Proofs.Ytfdkmngkpihpbaa
open Go.RowKit

theorem mix_row {x : Tb} {cs : List ByteArray} {j i m : Nat} (hm : m < (mixR x cs j i).length) : (mixR x cs j i)[m].length ≤ cs.length := by
  rw [mix_get (by rwa [mix_len] at hm) hm, pkRow_len, List.length_take]
  omega
set_option maxRecDepth 100000 in
set_option maxHeartbeats 8000000 in
theorem pickCols_any (x : Tb) (cs : List ByteArray) (v vc : Value) (B : Nat) (w : World) (hx : x.At B w v) (hc : kStr.Rd B w vc cs) (hB : B ≤ w.heap.size) (hok : x.Ok) (hok2 : ∀ s ∈ cs, s.size ≤ maxLen) (hn : x.need ≤ 1048576) (hn2 : cs.length ≤ 1048576) :
    Calls Try.prog 45 #[v, vc] w (TbPost (pkR x cs) (pkB x cs) w) := by
  obtain ⟨a, b, rfl, ha, hb⟩ := hx
  obtain ⟨p, c1, rfl⟩ := ha.form
  obtain ⟨q, d, rfl⟩ := hb.form
  obtain ⟨pc, cc, rfl⟩ := hc.form
  have hm1 := ha.max
  have hm2 := hb.max
  have hm3 := hc.max
  unfold maxLen at hm1 hm2 hm3
  have hnr : x.rs.length ≤ 1048576 := by unfold Tb.need at hn; omega
  have HAR := Lib.hid ha
  have HBR := Lib.hid hb
  have HCR := Lib.hid hc
  have HOK := Lib.hid hok.1
  have HO2 := Lib.hid hok2
  have CNO := Lib.hid (pkR_no (x := x) (cs := cs))
  have CYES := Lib.hid (pkR_yes (x := x) (cs := cs))
  have C1 := Lib.hid (pkB_1 (x := x) (cs := cs))
  have C2 := Lib.hid (pkB_2 (x := x) (cs := cs))
  have C3 := Lib.hid (fun k hk => pkB_3 (x := x) (cs := cs) (k := k) hk)
  have CLN := Lib.hid (tb_parts (x := x))
  have CMZ := Lib.hid (mix_zero x cs)
  have CMN := Lib.hid (mix_next x cs)
  have CMA := Lib.hid (mix_all x cs)
  have CML := Lib.hid (mix_len x cs)
  have CSU := Lib.hid (pk_sum x cs)
  have CPL := Lib.hid (pk_len x cs)
  have CFIN := Lib.hid (pkB_yes (x := x) (cs := cs))
  have CPO := Lib.hid (pk_ok (x := x) (cs := cs))
  have CST := Lib.hid (fun (j i : Nat) (hi : i < x.rs.length) (hj : j < cs.length) (a : Nat) (ha : a < x.rs[i].length) (he : colAt x.cs cs[j] = a) (hi' : i < (mixR x cs j i).length) => mix_step hi hj ha he hi')
  obtain ⟨R, eR⟩ : ∃ R, R = pkR x cs := ⟨_, rfl⟩
  obtain ⟨T, eT⟩ : ∃ T, T = pkB x cs := ⟨_, rfl⟩
  rw [← eR, ← eT]
  rw [← eR, ← eT] at CNO CYES
  rw [← eT] at C1 C2 C3 CFIN CPO
  clear ha hb hc hok hok2 hn eR eT
  have hmk : ∀ w : World, (Instr.makeSlice 31 (.int .i64 (x.rs.length : Int)) (.int .i64 (x.rs.length : Int))).run Try.prog w = .ok (.slice (some ⟨w.heap.size, 0, none⟩) x.rs.length x.rs.length) (w.alloc (.cells (madeCells #[.slice none 0 0] x.rs.length) 23)) := by
    intro w
    obtain ⟨i, hi, hzz⟩ := Option.map_eq_some_iff.1 infoRowT
    simp only [Prod.mk.injEq] at hzz
    obtain ⟨hz, hs, hb⟩ := hzz
    have hr := run_make (P := Try.prog) w 31 23 i _ Try.underlying31 hi hz .i64 .i64 x.rs.length x.rs.length (by omega) (Int.le_refl _) (by rw [hb]; omega) (by omega)
    rw [hs, Nat.mul_one] at hr
    exact hr
  obtain ⟨W0, eW⟩ : ∃ W0, W0 = (w.alloc (.cells #[.slice p x.cs.length c1, .slice q x.rs.length d] 33)).alloc (.cells #[.slice none 0 0, .slice none 0 0] 33) := ⟨_, rfl⟩
  have HK := Lib.hid (show ∀ E, Below (w.heap.size + 2) W0 E → Kept x p c1 q d w E from fun E hE => by rw [eW] at hE; exact kept_of hE)
  have HV := Lib.hid (show Below w.heap.size w W0 by rw [eW]; exact ((Below.refl _ _).alloc (Nat.le_refl _) _).alloc (by simp) _)
  have hs0 : w.heap.size + 2 ≤ W0.heap.size := by rw [eW]; simp
  have EW := Lib.hid eW
  clear eW
  go_enter Try.func45, Try.ntmps45
  obtain ⟨⟨kz, k0, k1⟩, ⟨k2, k3⟩, k4, k5⟩ := HK.out W0 (Below.refl _ _)
  go_wp2_with fail
  rw [← EW.out]
  go_wp2_with fail
  refine (tableValid_any x _ B W0 ⟨_, _, rfl, HAR.out.to (HV.out.mono hB) (Nat.le_refl _), HBR.out.to (HV.out.mono hB) (Nat.le_refl _)⟩ (by omega) HOK.out).mono ?_
  rintro en w1 ⟨rfl, hb1⟩
  have hs1 := hb1.size
  have HR1 := Lib.hid (show Below (w.heap.size + 2) W0 w1 from hb1.mono (by omega))
  have HB1 := Lib.hid (HV.out.trans (hb1.mono (by omega)))
  clear k0 k1 k2 k3 k4 k5 kz hb1
  obtain ⟨⟨kz, k0, k1⟩, ⟨k2, k3⟩, k4, k5⟩ := HK.out w1 HR1.out
  cases hE : x.ok with
  | false =>
    have HTF := Lib.hid (C1.out hE)
    have hT := HTF.out
    subst hT
    have hR := CNO.out rfl
    subst hR
    clear hE
    go_wp2_with fail
    exact bodyPost_ret (v := .tuple #[.agg #[.slice none 0 0, .slice none 0 0], .bool false]) (by simp [results, Try.results45, go_sem, k2, k3]) rfl (TbPost.no ((HB1.out.setCell (by simp) _).setCell (by simp) _))
  | true =>
    have HLN := Lib.hid (CLN.out hE)
    have HE := Lib.hid hE
    clear hE CLN
    go_wp2_with fail
    refine (colsValid_any cs _ B w1 (HCR.out.to (HB1.out.mono hB) (Nat.le_refl _)) (by omega) HO2.out).mono ?_
    rintro en w2 ⟨rfl, hb2⟩
    have hs2 := hb2.size
    have HR2 := Lib.hid (HR1.out.trans (hb2.mono (by omega)))
    have HB2 := Lib.hid (HB1.out.trans (hb2.mono (by omega)))
    clear k0 k1 k2 k3 k4 k5 kz hb2
    obtain ⟨⟨kz, k0, k1⟩, ⟨k2, k3⟩, k4, k5⟩ := HK.out w2 HR2.out
    cases hN : tbNames cs with
    | false =>
      have HTF := Lib.hid (C2.out hN)
      have hT := HTF.out
      subst hT
      have hR := CNO.out rfl
      subst hR
      clear hN
      go_wp2_with fail
      exact bodyPost_ret (v := .tuple #[.agg #[.slice none 0 0, .slice none 0 0], .bool false]) (by simp [results, Try.results45, go_sem, k2, k3]) rfl (TbPost.no ((HB2.out.setCell (by simp) _).setCell (by simp) _))
    | true =>
      have HNA := Lib.hid hN
      have hc6 : cs.length ≤ 6 := by unfold tbNames at hN; simp only [Bool.and_eq_true, decide_eq_true_eq] at hN; omega
      clear hN C1 C2
      go_upto_region 4 with fail
      obtain ⟨W3, eW3⟩ : ∃ u, u = w2.alloc (.cells (madeCells #[.slice none 0 0] x.rs.length) 23) := ⟨_, rfl⟩
      rw [← eW3]
      have hs3 : w2.heap.size < W3.heap.size := by rw [eW3]; simp
      have hb3 : Below w2.heap.size w2 W3 := by rw [eW3]; exact (Below.refl _ _).alloc (Nat.le_refl _) _
      have HP3 := Lib.hid (show Pk W3 w2.heap.size (mixR x cs 0 0) (fun _ => []) (w.heap.size + 2) by rw [eW3, CMZ.out]; exact Pk.new w2 x.rs.length _ (by omega))
      have HR3 := Lib.hid (HR2.out.trans (hb3.mono (by omega)))
      obtain ⟨pk, epk⟩ : ∃ k, k = w2.heap.size := ⟨_, rfl⟩
      rw [← epk] at HP3 ⊢
      have hpk : w.heap.size + 2 ≤ pk := by omega
      clear eW3 hb3 epk k0 k1 k2 k3 k4 k5 kz HR2
      go_wp2_with fail
      go_loopw [27] (fun i wr => ∃ (j : Nat) (G : Nat → List Nat), j ≤ cs.length ∧ i = .int .i64 j ∧ RowKit.Hid (Pk wr pk (mixR x cs j 0) G (w.heap.size + 2)) ∧ RowKit.Hid (∀ k (hk : k < cs.length), k < j → 0 ≤ colAt x.cs cs[k]) ∧ RowKit.Hid (Below (w.heap.size + 2) W0 wr)) (fun i _ => cs.length - (intOf i).toNat)
      case atStart => exact ⟨0, _, Nat.zero_le _, rfl, HP3, Lib.hid (fun k hk h => by omega), HR3⟩
      case round =>
        rename World => wo
        clear HP3 HR3
        obtain ⟨j, G, hj, rfl, HP, HG, HB⟩ := hrel
        have hsz := HB.out.size
        have HBA := Lib.hid (HV.out.trans (HB.out.mono (by omega)))
        have hsz2 := HBA.out.size
        obtain ⟨⟨kz, k0, k1⟩, ⟨k2, k3⟩, k4, k5⟩ := HK.out wo HB.out
        by_cases hlt : j < cs.length
        · obtain ⟨bb, off, rfl, hbb, d0⟩ := kStr_get (HCR.out.to (HBA.out.mono hB) (Nat.le_refl _)) hlt
          have hc3 := C3.out j hlt
          have hst := CST.out j
          have hcr := colAt_range x.cs cs[j]
          have hgn := HG.out
          obtain ⟨z, ez⟩ : ∃ z, z = colAt x.cs cs[j] := ⟨_, rfl⟩
          have HEZ := Lib.hid ez
          rw [← ez] at hc3 hcr
          have HGN := Lib.hid (show 0 ≤ z → ∀ k (hk : k < cs.length), k < j + 1 → 0 ≤ colAt x.cs cs[k] from fun h0 k hk hkj => by
            by_cases e : k = j
            · subst e; rw [← ez]; exact h0
            · exact hgn k hk (by omega))
          have HST := Lib.hid (show ∀ (i : Nat) (hi : i < x.rs.length) (a : Nat) (ha : a < x.rs[i].length), z = a → ∀ (hi' : i < (mixR x cs j i).length), (mixR x cs j i).set i ((mixR x cs j i)[i] ++ [x.rs[i][a]]) = mixR x cs j (i + 1) from fun i hi a ha e hi' => hst i hi hlt a ha (ez.symm.trans e) hi')
          obtain ⟨c, ec⟩ : ∃ c, c = cs[j] := ⟨_, rfl⟩
          rw [← ec] at d0 HEZ
          have HC3 := Lib.hid hc3
          clear ez ec hst hgn hc3 CST C3
          have hjj : (j : Int) < (cs.length : Int) := by omega
          have hbr : bb < wo.heap.size := by omega
          go_wp2_with fail
          refine (slIndexStr_any x.cs c _ B wo (HAR.out.to (HBA.out.mono hB) (Nat.le_refl _)) (by omega)).mono ?_
          rintro en w4 ⟨rfl, hb4⟩
          rw [← HEZ.out]
          have hs4 := hb4.size
          have HP4 := Lib.hid (HP.out.below hb4)
          have HR4 := Lib.hid (HB.out.trans (hb4.mono (by omega)))
          have HB4 := Lib.hid (HBA.out.trans (hb4.mono (by omega)))
          clear k0 k1 k2 k3 k4 k5 kz hb4 d0
          obtain ⟨⟨kz, k0, k1⟩, ⟨k2, k3⟩, k4, k5⟩ := HK.out w4 HR4.out
          by_cases hz : z < 0
          · have HTF := Lib.hid (HC3.out hz)
            have hT := HTF.out
            subst hT
            have hR := CNO.out rfl
            subst hR
            have hdz : decide (z < 0) = true := decide_eq_true hz
            have hbw := HB4.out
            go_wp2_with fail
            exact bodyPost_ret (v := .tuple #[.agg #[.slice none 0 0, .slice none 0 0], .bool false]) (by simp [results, Try.results45, go_sem, k2, k3]) rfl (TbPost.no ((HB4.out.setCell (by simp) _).setCell (by simp) _))
          · have hdz : decide (z < 0) = false := decide_eq_false hz
            obtain ⟨a, rfl⟩ := Int.eq_ofNat_of_zero_le (show 0 ≤ z by omega)
            have HGM := Lib.hid (HGN.out (by omega))
            have hal : a < x.cs.length := by omega
            go_wp2_with fail
            clear k0 k1 k2 k3 k4 k5 kz
            go_loopw [41] (fun i wi => ∃ (m : Nat) (G : Nat → List Nat), m ≤ x.rs.length ∧ i = .int .i64 m ∧ RowKit.Hid (Pk wi pk (mixR x cs j m) G (w.heap.size + 2)) ∧ RowKit.Hid (Below (w.heap.size + 2) W0 wi)) (fun i _ => x.rs.length - (intOf i).toNat)
            case atStart => exact ⟨0, _, Nat.zero_le _, rfl, HP4, HR4⟩
            case round =>
              clear HP4 HP
              obtain ⟨m, G, hm, rfl, HP, HBI⟩ := hrel
              have hsi := HBI.out.size
              have HBJ := Lib.hid (HV.out.trans (HBI.out.mono (by omega)))
              have hsj := HBJ.out.size
              by_cases hmt : m < x.rs.length
              · obtain ⟨b2, o2, q2, c2, rfl, hb2, e0, hin⟩ := kRow_get (HBR.out.to (HBJ.out.mono hB) (Nat.le_refl _)) hmt
                have hyl := (HLN.out.2.2 _ (List.getElem_mem hmt)).1
                have hay : a < x.rs[m].length := by omega
                have hset := HST.out m hmt a hay rfl
                have hml : m < (mixR x cs j m).length := by rw [CML.out]; exact hmt
                have hset := hset hml
                obtain ⟨⟨hp1, hp2⟩, hp3, hp4, _⟩ := HP.out
                obtain ⟨q6, c6, f0, hrow⟩ := hp3 m hml
                have f1 := hp4 m hml
                obtain ⟨b3, o3, rfl, hb3, g0⟩ := hin.it hay
                obtain ⟨y, ey⟩ : ∃ y, y = x.rs[m] := ⟨_, rfl⟩
                rw [← ey] at e0
                obtain ⟨u, eu⟩ : ∃ u, u = x.rs[m][a] := ⟨_, rfl⟩
                rw [← eu] at hset g0
                have hyy : a < y.length := by rw [ey]; exact hay
                have hym := hin.max
                rw [← ey] at hym
                unfold maxLen at hym
                have happ := fun (E : World) (hE : Below wr.heap.size wr E) (hl : (mixR x cs j m)[m].length < 3000000) => app_int (hrow.below hE) u hl
                have hput := fun (E : World) (hE : Below wr.heap.size wr E) (v' : Value) (w' : World) => (HP.out.below hE).put (x := u) (v' := v') (w' := w') hml
                obtain ⟨Y, eY⟩ : ∃ Y, Y = (mixR x cs j m)[m] := ⟨_, rfl⟩
                rw [← eY] at hset f0 hrow happ hput
                have hYm : Y.length ≤ cs.length := by rw [eY]; exact mix_row hml
                have hmm : (m : Int) < (x.rs.length : Int) := by omega
                have haa : (a : Int) < (y.length : Int) := by omega
                have HSET := Lib.hid hset
                have HAPP := Lib.hid happ
                have HPUT := Lib.hid hput
                clear hset happ hput hin ey eu eY hp3 hp4 hrow
                have hb3l : b3 < w.heap.size + 2 := by omega
                go_upto_region 13 with fail
                refine wp_region_E (last := 13) (S := fun w' => w'.cell? ⟨pk, m, none⟩ = some (.slice q6 Y.length c6) ∧ w'.cell? ⟨b3, o3 + a, none⟩ = some (.int .i64 u)) (by kernel_rfl) ⟨f0, g0⟩ (fun hHeld => ?_)
                have cW : Below wr.heap.size wr wr.drew := (Below.refl _ _).drew
                have CK2 := Lib.hid (fun (E : World) (hE : Below wr.heap.size wr E) => (⟨keepc hE hp2 f0, keepc hE (show b3 < wr.heap.size by omega) g0⟩ : E.cell? ⟨pk, m, none⟩ = some (.slice q6 Y.length c6) ∧ E.cell? ⟨b3, o3 + a, none⟩ = some (.int .i64 u)))
                have szW : wr.heap.size ≤ wr.drew.heap.size := Nat.le_refl _
                have HBZ := Lib.hid (HBI.out.trans (cW.mono (by omega)))
                generalize wr.drew = Z0 at cW hHeld szW HBZ ⊢
                (refine takeE (i := 0) (v := ?_) [] rfl (by kernel_rfl) (by kernel_rfl) (fun _ _ _ h => h) (Or.inl ⟨by kernel_rfl, ?_⟩) (by assumption) ?_; rotate_left; (focus (intro w hSw; (try dsimp only at hSw); go_simp; first | done | with_reducible rfl | fail "takeE")); (try simp only [Act.put, List.setIfInBounds_toArray, List.set_cons_zero, List.set_cons_succ]))
                (refine takeE (i := 1) (v := ?_) [] rfl (by kernel_rfl) (by kernel_rfl) (fun _ _ _ h => h) (Or.inl ⟨by kernel_rfl, ?_⟩) (by assumption) ?_; rotate_left; (focus (intro w hSw; (try dsimp only at hSw); go_simp; first | done | with_reducible rfl | fail "takeE")); (try simp only [Act.put, List.setIfInBounds_toArray, List.set_cons_zero, List.set_cons_succ]))
                (refine takeE (i := 2) (v := ?_) [] rfl (by kernel_rfl) (by kernel_rfl) (fun _ _ _ h => h) (Or.inl ⟨by kernel_rfl, ?_⟩) (by assumption) ?_; rotate_left; (focus (intro w hSw; (try dsimp only at hSw); go_simp; first | done | with_reducible rfl | fail "takeE")); (try simp only [Act.put, List.setIfInBounds_toArray, List.set_cons_zero, List.set_cons_succ]))
                (refine takeE (i := 3) (v := ?_) [] rfl (by kernel_rfl) (by kernel_rfl) (fun _ _ _ h => h) (Or.inl ⟨by kernel_rfl, ?_⟩) (by assumption) ?_; rotate_left; (focus (intro w hSw; (try dsimp only at hSw); go_simp; first | done | with_reducible rfl | fail "takeE")); (try simp only [Act.put, List.setIfInBounds_toArray, List.set_cons_zero, List.set_cons_succ]))
                (refine takeE (i := 4) (v := ?_) [] rfl (by kernel_rfl) (by kernel_rfl) (fun _ _ _ h => h) (Or.inl ⟨by kernel_rfl, ?_⟩) (by assumption) ?_; rotate_left; (focus (intro w hSw; (try dsimp only at hSw); go_simp; first | done | with_reducible rfl | fail "takeE")); (try simp only [Act.put, List.setIfInBounds_toArray, List.set_cons_zero, List.set_cons_succ]))
                (refine takeE (i := 5) (v := ?_) [] rfl (by kernel_rfl) (by kernel_rfl) (fun _ _ _ h => h) (Or.inl ⟨by kernel_rfl, ?_⟩) (by assumption) ?_; rotate_left; (focus (intro w hSw; (try dsimp only at hSw); go_simp; first | done | with_reducible rfl | fail "takeE")); (try simp only [Act.put, List.setIfInBounds_toArray, List.set_cons_zero, List.set_cons_succ]))
                (refine takeE (i := 6) (v := ?_) [] rfl (by kernel_rfl) (by kernel_rfl) (fun _ _ _ h => h) (Or.inl ⟨by kernel_rfl, ?_⟩) (by assumption) ?_; rotate_left; (focus (intro w hSw; (try dsimp only at hSw); go_simp; first | done | with_reducible rfl | fail "takeE")); (try simp only [Act.put, List.setIfInBounds_toArray, List.set_cons_zero, List.set_cons_succ]))
                (refine takeE (i := 7) (v := ?_) [] rfl (by kernel_rfl) (by kernel_rfl) (fun _ _ _ h => h) (Or.inl ⟨by kernel_rfl, ?_⟩) (by assumption) ?_; rotate_left; (focus (intro w hSw; (try dsimp only at hSw); go_simp; first | done | with_reducible rfl | fail "takeE")); (try simp only [Act.put, List.setIfInBounds_toArray, List.set_cons_zero, List.set_cons_succ]))
                (refine takeE (i := 8) (v := ?_) [] rfl (by kernel_rfl) (by kernel_rfl) (fun _ _ _ h => h) (Or.inl ⟨by kernel_rfl, ?_⟩) (by assumption) ?_; rotate_left; (focus (intro w hSw; (try dsimp only at hSw); go_simp; first | done | with_reducible rfl | fail "takeE")); (try simp only [Act.put, List.setIfInBounds_toArray, List.set_cons_zero, List.set_cons_succ]))
                (refine takeE (i := 9) (v := ?_) [] rfl (by kernel_rfl) (by kernel_rfl) (fun _ _ _ h => h) (Or.inl ⟨by kernel_rfl, ?_⟩) (by assumption) ?_; rotate_left; (focus (intro w hSw; (try dsimp only at hSw); go_simp; first | done | with_reducible rfl | fail "takeE")); (try simp only [Act.put, List.setIfInBounds_toArray, List.set_cons_zero, List.set_cons_succ]))
                refine oneE (i := 10) rfl (by kernel_rfl) (by kernel_rfl) (fun K hK => ?_)
                go_simp
                refine hK.out _ _ (CK2.out _ (show Below wr.heap.size wr _ by ((repeat (first | with_reducible assumption | with_reducible exact Below.refl _ _ | refine Below.setCell ?_ (by (first | omega | (simp; omega) | (simp; done) | fail "sml")) _ | refine Below.drew ?_ | refine Below.alloc ?_ (by (first | omega | (simp; omega) | (simp; done) | fail "sml")) _)); first | done | fail "chs"))) (fun hHeld => ?_)
                clear hK K
                (try simp only [Act.put, List.setIfInBounds_toArray, List.set_cons_zero, List.set_cons_succ])
                refine oneE (i := 11) rfl (by kernel_rfl) (by kernel_rfl) (fun K hK => ?_)
                refine wp_app (.tmp 51) (.tmp 56) 23 (by rfl) _ _ (by rfl) (by rfl) _ (HAPP.out Z0 cW (by omega) _) ?_
                rintro v6 w6 ha6
                obtain ⟨e1, e2, G6, hP6, hb6⟩ := HPUT.out Z0 cW v6 w6 ha6
                obtain ⟨F6, ho6, _, _⟩ := ha6
                obtain ⟨q7, c7, hvf⟩ := ho6.form
                rw [List.length_append, List.length_singleton] at hvf
                subst hvf
                rw [HSET.out] at hP6
                have HP6 := Lib.hid hP6
                have HB6 := Lib.hid ((HBZ.out.trans hb6).setCell (p := ⟨pk, m, none⟩) hp1 (.slice q7 (Y.length + 1) c7))
                have F0 := e2.trans (CK2.out Z0 cW).1
                have G0 := keepc hb6 hb3l (CK2.out Z0 cW).2
                clear hP6 hb6 ho6 e2
                refine hK.out _ _ ⟨F0, G0⟩ (fun hHeld => ?_)
                clear hK K
                (try simp only [Act.put, List.setIfInBounds_toArray, List.set_cons_zero, List.set_cons_succ])
                (refine takeE (i := 12) (v := ?_) [] rfl (by kernel_rfl) (by kernel_rfl) (fun _ _ _ h => h) (Or.inl ⟨by kernel_rfl, ?_⟩) (by assumption) ?_; rotate_left; (focus (intro w hSw; (try dsimp only at hSw); go_simp; first | done | with_reducible rfl | fail "takeE")); (try simp only [Act.put, List.setIfInBounds_toArray, List.set_cons_zero, List.set_cons_succ]))
                refine lastE rfl (by kernel_rfl) (by kernel_rfl) (fun K hK => ?_)
                go_simp
                refine hK.out _ _ ?_
                clear hK K
                refine doneE (by kernel_rfl) ?_ _
                go_wp2_with fail
                go_roundw
                case rel => exact ⟨m + 1, G6, by omega, by go_num, HP6, HB6⟩
                case measure => simp [intOf]; omega
              · obtain rfl : m = x.rs.length := by omega
                have HPN := Lib.hid (show Pk wr pk (mixR x cs (j + 1) 0) G (w.heap.size + 2) by rw [← CMN.out]; exact HP.out)
                go_wp2_with fail
                go_roundw
                case rel => exact ⟨j + 1, G, by omega, by go_num, HPN, HGM, HBI⟩
                case measure => simp [intOf]; omega
        · obtain rfl : j = cs.length := by omega
          have HTT := Lib.hid (CFIN.out HE.out HNA.out (fun k hk => HG.out k hk hk))
          have HFR := Lib.hid (CYES.out HTT.out)
          have HCO := Lib.hid (CPO.out HTT.out)
          have hT := HTT.out
          have hR := HFR.out
          clear CYES CPO CFIN CNO C3 HTT HFR
          subst hT hR
          have HRD := Lib.hid (show kRow.Rd wo.heap.size wo (.slice (some ⟨pk, 0, none⟩) x.rs.length x.rs.length) (pkRs x cs) from by
            have h9 := HP.out.rd (cap := x.rs.length) (by rw [CML.out]; omega) (by unfold maxLen; omega)
            rw [CMA.out, CPL.out] at h9
            exact h9)
          have hmul : x.rs.length * cs.length ≤ 400 * 6 := Nat.mul_le_mul HLN.out.2.1 hc6
          have h400 := HLN.out.2.1
          go_wp2_with fail
          refine (tw_yes HCO.out (tableWith_any cs (pkRs x cs) _ _ wo.heap.size wo (HCR.out.to (HBA.out.mono hB) (by omega)) HRD.out (Nat.le_refl _) HO2.out hn2 (by rw [CPL.out, CSU.out]; omega))).mono ?_
          rintro en w5 ⟨v5, F5, rfl, ho5, hf5, hb5⟩
          have hs5 := hb5.size
          have HF5 := Lib.hid (show ∀ y ∈ F5, w.heap.size + 2 ≤ y from fun y hy => by have := hf5 y hy; omega)
          have HO5 := Lib.hid ho5
          obtain ⟨pa, ca, qb, cb, rfl⟩ := ho5.form
          have HB5 := Lib.hid (HBA.out.trans (hb5.mono (by omega)))
          have HR5 := Lib.hid (HB.out.trans (hb5.mono (by omega)))
          clear ho5 hf5 hb5 k0 k1 k2 k3 k4 k5 kz
          obtain ⟨⟨kz, k0, k1⟩, ⟨k2, k3⟩, k4, k5⟩ := HK.out w5 HR5.out
          go_wp2_with fail
          exact bodyPost_ret (v := .tuple #[.agg #[.slice pa cs.length ca, .slice qb (pkRs x cs).length cb], .bool true]) (by simp [results, Try.results45, go_sem, k2, k3]) rfl ⟨_, F5, rfl, HO5.out.chg (G := [w.heap.size + 1]) (((Chg.refl _ _).setCell (by simp) _).setCell (by simp) _) (fun y hy => by have := HF5.out y hy; simp; omega), fun y hy => by have := HF5.out y hy; omega, (HB5.out.setCell (by simp) _).setCell (by simp) _⟩
end Go.Proofs.Ytfdkmngkpihpbaa
