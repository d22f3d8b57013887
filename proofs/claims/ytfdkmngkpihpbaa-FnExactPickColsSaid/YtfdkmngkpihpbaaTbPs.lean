/- PickCols of the model. -/
import Derived.Test.YtfdkmngkpihpbaaTbPk
import Derived.Test.YtfdkmngkpihpbaaM1q0p1
import Derived.Test.YtfdkmngkpihpbaaM1q1p1
import Derived.Deep.RegionHeld3
import Derived.Deep.DeepCutAuto
namespace Go.Proofs.Ytfdkmngkpihpbaa
open Go.RowKit

set_option maxRecDepth 100000 in
set_option maxHeartbeats 2000000 in
theorem l11Col_any (x : Tb) (z : ByteArray) (v : Value) (B : Nat) (w : World) (hx : x.At B w v) (hB : B ≤ w.heap.size) :
    Calls Try.prog 80 #[v, .string z] w fun e w' => e = .returned (.int .i64 (colAt x.cs z)) ∧ Below w.heap.size w w' := by
  obtain ⟨a, b, rfl, ha, hb⟩ := hx
  obtain ⟨p, c1, rfl⟩ := ha.form
  obtain ⟨q, d, rfl⟩ := hb.form
  have hm1 := ha.max
  unfold maxLen at hm1
  have HV := Lib.hid ha
  clear ha hb
  obtain ⟨W0, eW⟩ : ∃ W0, W0 = w.alloc (.cells #[.slice p x.cs.length c1, .slice q x.rs.length d] 33) := ⟨_, rfl⟩
  have hW := Lib.hid (show Below w.heap.size w W0 by rw [eW]; exact (Below.refl _ _).alloc (Nat.le_refl _) _)
  have hs0 : w.heap.size < W0.heap.size := by rw [eW]; simp
  have HK := Lib.hid (show ∀ E, Below W0.heap.size W0 E → E.cell? ⟨w.heap.size, 0, none⟩ = some (.slice p x.cs.length c1) from fun E hE => keepc hE hs0 (by rw [eW]; simp [go_sem]))
  have EW := Lib.hid eW
  clear eW
  go_enter Try.func80, Try.ntmps80
  go_upto_region 1 with fail
  rw [← EW.out]
  go_wp2_with fail
  go_loopw [5] (fun i wr => ∃ k : Nat, k ≤ x.cs.length ∧ i = .int .i64 k ∧ RowKit.Hid (z ∉ x.cs.take k) ∧ RowKit.Hid (Below W0.heap.size W0 wr)) (fun i _ => x.cs.length - (intOf i).toNat)
  case atStart => exact ⟨0, Nat.zero_le _, rfl, Lib.hid (by simp), Lib.hid (Below.refl _ _)⟩
  case round =>
    obtain ⟨k, hk, rfl, ha, HB⟩ := hrel
    have hsz := HB.out.size
    have HBW := Lib.hid (hW.out.trans (HB.out.mono (by omega)))
    have k0 := HK.out wr HB.out
    by_cases hlt : k < x.cs.length
    · obtain ⟨b, off, rfl, hb, c0⟩ := kStr_get (HV.out.to (HBW.out.mono hB) (Nat.le_refl _)) hlt
      have hgood := Lib.hid (show x.cs[k] ≠ z → z ∉ x.cs.take (k + 1) from fun h => by rw [List.take_succ_eq_append_getElem hlt]; simp only [List.mem_append, List.mem_singleton]; exact fun h2 => h2.elim ha.out (fun e => h e.symm))
      have hbad := Lib.hid (show x.cs[k] = z → colAt x.cs z = k from fun h => colAt_hit hlt h ha.out)
      obtain ⟨y, ey⟩ : ∃ y, y = x.cs[k] := ⟨_, rfl⟩
      rw [← ey] at hgood hbad c0
      have hkk : (k : Int) < (x.cs.length : Int) := by omega
      clear ey ha
      by_cases hE : y = z
      · have HG := Lib.hid (hbad.out hE)
        have hq := str_same hE
        clear hE hgood hbad
        go_wp2_with fail
        go_ret
        exact ⟨by rw [HG.out]; rfl, HBW.out⟩
      · have HG := Lib.hid (hgood.out hE)
        have hq := str_diff hE
        clear hE hgood hbad
        go_wp2_with fail
        go_roundw
        case rel => exact ⟨k + 1, by omega, by go_num, HG, HB⟩
        case measure => simp [intOf]; omega
    · have HG := Lib.hid (show colAt x.cs z = -1 from colAt_miss (by have := ha.out; rwa [List.take_of_length_le (by omega)] at this))
      go_wp2_with fail
      go_ret
      exact ⟨by rw [HG.out]; rfl, HBW.out⟩

set_option maxRecDepth 100000 in
set_option maxHeartbeats 8000000 in
theorem specPickCols_any (x : Tb) (cs : List ByteArray) (v vc : Value) (B : Nat) (w : World) (hx : x.At B w v) (hc : kStr.Rd B w vc cs) (hB : B ≤ w.heap.size) (hok : x.Ok) (hok2 : ∀ s ∈ cs, s.size ≤ maxLen) (hn : x.need ≤ 1048576) (hn2 : cs.length ≤ 1048576) :
    Calls Try.prog 44 #[v, vc] w (TbPost (pkR x cs) (pkB x cs) w) := by
  obtain ⟨a, b, rfl, ha, hb⟩ := hx
  obtain ⟨p, c1, rfl⟩ := ha.form
  obtain ⟨q, d, rfl⟩ := hb.form
  obtain ⟨pc, cc, rfl⟩ := hc.form
  have hm1 := ha.max
  have hm2 := hb.max
  have hm3 := hc.max
  unfold maxLen at hm1 hm2 hm3
  have hn1 : x.cs.length ≤ 1048576 := by unfold Tb.need at hn; omega
  have hnr : x.rs.length ≤ 1048576 := by unfold Tb.need at hn; omega
  have HAR := Lib.hid ha
  have HBR := Lib.hid hb
  have HCR := Lib.hid hc
  have HOK := Lib.hid hok.1
  have HO2 := Lib.hid hok2
  have CNO := Lib.hid (pkR_no (x := x) (cs := cs))
  have CYES := Lib.hid (pkR_yes (x := x) (cs := cs))
  have C1 := Lib.hid (pkB_1 (x := x) (cs := cs))
  have C2 := Lib.hid (pkB_2 (x := x) (cs := cs))
  have C3 := Lib.hid (fun k hk => pkB_3 (x := x) (cs := cs) (k := k) hk)
  have CLN := Lib.hid (tb_parts (x := x))
  have CSU := Lib.hid (pk_sum x cs)
  have CPL := Lib.hid (pk_len x cs)
  have CFIN := Lib.hid (pkB_yes (x := x) (cs := cs))
  obtain ⟨R, eR⟩ : ∃ R, R = pkR x cs := ⟨_, rfl⟩
  obtain ⟨T, eT⟩ : ∃ T, T = pkB x cs := ⟨_, rfl⟩
  rw [← eR, ← eT]
  rw [← eR, ← eT] at CNO CYES
  rw [← eT] at C1 C2 C3 CFIN
  clear ha hb hc hok hok2 hn eR eT
  obtain ⟨W0, eW⟩ : ∃ W0, W0 = (w.alloc (.cells #[.slice p x.cs.length c1, .slice q x.rs.length d] 33)).alloc (.cells #[.slice none 0 0, .slice none 0 0] 33) := ⟨_, rfl⟩
  have HK := Lib.hid (show ∀ E, Below (w.heap.size + 2) W0 E → Kept x p c1 q d w E from fun E hE => by rw [eW] at hE; exact kept_of hE)
  have HV := Lib.hid (show Below w.heap.size w W0 by rw [eW]; exact ((Below.refl _ _).alloc (Nat.le_refl _) _).alloc (by simp) _)
  have hs0 : w.heap.size + 2 ≤ W0.heap.size := by rw [eW]; simp
  have EW := Lib.hid eW
  clear eW
  go_enter Try.func44, Try.ntmps44
  obtain ⟨⟨kz, k0, k1⟩, ⟨k2, k3⟩, k4, k5⟩ := HK.out W0 (Below.refl _ _)
  go_wp2_with fail
  rw [← EW.out]
  go_wp2_with fail
  refine (specTableValid_any x _ B W0 ⟨_, _, rfl, HAR.out.to (HV.out.mono hB) (Nat.le_refl _), HBR.out.to (HV.out.mono hB) (Nat.le_refl _)⟩ (by omega) HOK.out hn1).mono ?_
  rintro en w1 ⟨rfl, hb1⟩
  have hs1 := hb1.size
  have HR1 := Lib.hid (show Below (w.heap.size + 2) W0 w1 from hb1.mono (by omega))
  have HB1 := Lib.hid (HV.out.trans (hb1.mono (by omega)))
  clear k0 k1 k2 k3 k4 k5 kz hb1
  obtain ⟨⟨kz, k0, k1⟩, ⟨k2, k3⟩, k4, k5⟩ := HK.out w1 HR1.out
  cases hE : x.ok with
  | false =>
    have HTF := Lib.hid (C1.out hE)
    have hT := HTF.out
    subst hT
    have hR := CNO.out rfl
    subst hR
    clear hE
    go_wp2_with fail
    exact bodyPost_ret (v := .tuple #[.agg #[.slice none 0 0, .slice none 0 0], .bool false]) (by simp [results, Try.results44, go_sem, k2, k3]) rfl (TbPost.no ((HB1.out.setCell (by simp) _).setCell (by simp) _))
  | true =>
    have HLN := Lib.hid (CLN.out hE)
    have HE := Lib.hid hE
    clear hE CLN
    go_wp2_with fail
    refine (l11Names_any cs _ B w1 (HCR.out.to (HB1.out.mono hB) (Nat.le_refl _)) (by omega) HO2.out hn2).mono ?_
    rintro en w2 ⟨rfl, hb2⟩
    have hs2 := hb2.size
    have HR2 := Lib.hid (HR1.out.trans (hb2.mono (by omega)))
    have HB2 := Lib.hid (HB1.out.trans (hb2.mono (by omega)))
    clear k0 k1 k2 k3 k4 k5 kz hb2
    obtain ⟨⟨kz, k0, k1⟩, ⟨k2, k3⟩, k4, k5⟩ := HK.out w2 HR2.out
    cases hN : tbNames cs with
    | false =>
      have HTF := Lib.hid (C2.out hN)
      have hT := HTF.out
      subst hT
      have hR := CNO.out rfl
      subst hR
      clear hN
      go_wp2_with fail
      exact bodyPost_ret (v := .tuple #[.agg #[.slice none 0 0, .slice none 0 0], .bool false]) (by simp [results, Try.results44, go_sem, k2, k3]) rfl (TbPost.no ((HB2.out.setCell (by simp) _).setCell (by simp) _))
    | true =>
      have HNA := Lib.hid hN
      have hc6 : cs.length ≤ 6 := by unfold tbNames at hN; simp only [Bool.and_eq_true, decide_eq_true_eq] at hN; omega
      clear hN C1 C2
      go_upto_region 4 with fail
      obtain ⟨W3, eW3⟩ : ∃ u, u = w2.alloc (.cells #[] 3) := ⟨_, rfl⟩
      rw [← eW3]
      have hb3 : Below w2.heap.size w2 W3 := by rw [eW3]; exact (Below.refl _ _).alloc (Nat.le_refl _) _
      have hs3 : w2.heap.size < W3.heap.size := by rw [eW3]; simp
      have HR3 := Lib.hid (HR2.out.trans (hb3.mono (by omega)))
      clear eW3 hb3 k0 k1 k2 k3 k4 k5 kz HR2
      go_wp2_with fail
      go_loopw [6, 7] (fun va i wr => ∃ (j : Nat) (F : List Nat), j ≤ cs.length ∧ i = .int .i64 j ∧ RowKit.Hid (OwnI wr va ((cs.take j).map (colAt x.cs)) F) ∧ RowKit.Hid (∀ y ∈ F, w.heap.size + 2 ≤ y) ∧ RowKit.Hid (∀ k (hk : k < cs.length), k < j → 0 ≤ colAt x.cs cs[k]) ∧ RowKit.Hid (Below (w.heap.size + 2) W0 wr)) (fun _ i _ => cs.length - (intOf i).toNat)
      case atStart => exact ⟨0, [], Nat.zero_le _, rfl, Lib.hid (by simpa using OwnI.empty W3 _), Lib.hid (by simp), Lib.hid (fun k hk h => by omega), HR3⟩
      case round =>
        rename World => wo
        clear HR3
        obtain ⟨j, F, hj, rfl, HO, HF, HG, HB⟩ := hrel
        have hsz := HB.out.size
        have HBA := Lib.hid (HV.out.trans (HB.out.mono (by omega)))
        have hsz2 := HBA.out.size
        obtain ⟨⟨kz, k0, k1⟩, ⟨k2, k3⟩, k4, k5⟩ := HK.out wo HB.out
        by_cases hlt : j < cs.length
        · obtain ⟨bb, off, rfl, hbb, d0⟩ := kStr_get (HCR.out.to (HBA.out.mono hB) (Nat.le_refl _)) hlt
          have hc3 := C3.out j hlt
          have hcr := colAt_range x.cs cs[j]
          have hgn := HG.out
          have htk : (cs.take (j + 1)).map (colAt x.cs) = (cs.take j).map (colAt x.cs) ++ [colAt x.cs cs[j]] := by rw [List.take_succ_eq_append_getElem hlt, List.map_append]; rfl
          obtain ⟨z, ez⟩ : ∃ z, z = colAt x.cs cs[j] := ⟨_, rfl⟩
          have HEZ := Lib.hid ez
          rw [← ez] at hc3 hcr htk
          have HGN := Lib.hid (show 0 ≤ z → ∀ k (hk : k < cs.length), k < j + 1 → 0 ≤ colAt x.cs cs[k] from fun h0 k hk hkj => by
            by_cases e : k = j
            · subst e; rw [← ez]; exact h0
            · exact hgn k hk (by omega))
          obtain ⟨c, ec⟩ : ∃ c, c = cs[j] := ⟨_, rfl⟩
          rw [← ec] at d0 HEZ
          obtain ⟨pa, ca, hvf⟩ := HO.out.form
          obtain ⟨Z, eZ⟩ : ∃ Z, Z = (cs.take j).map (colAt x.cs) := ⟨_, rfl⟩
          rw [← eZ] at HO hvf htk
          have hZl : Z.length = j := by rw [eZ, List.length_map, List.length_take]; omega
          rw [hZl] at hvf
          subst hvf
          have HZL := Lib.hid hZl
          have HC3 := Lib.hid hc3
          have HTK := Lib.hid htk
          clear ez ec hgn hc3 C3 htk eZ hZl
          have hjj : (j : Int) < (cs.length : Int) := by omega
          have hbr : bb < wo.heap.size := by omega
          have hwl : w.heap.size < wo.heap.size := by omega
          have CC := Lib.hid (fun (E : World) (hE : Below wo.heap.size wo E) => ((l11Col_any x c (.agg #[.slice p x.cs.length c1, .slice q x.rs.length d]) B E ⟨_, _, rfl, HAR.out.to ((HBA.out.trans (hE.mono (by omega))).mono hB) (Nat.le_refl _), HBR.out.to ((HBA.out.trans (hE.mono (by omega))).mono hB) (Nat.le_refl _)⟩ (by have := hE.size; omega)).mono fun e w' h => ⟨by rw [h.1, ← HEZ.out], hE.trans (h.2.mono hE.size)⟩ : Calls Try.prog 80 #[.agg #[.slice p x.cs.length c1, .slice q x.rs.length d], .string c] E fun e w' => e = .returned (.int .i64 z) ∧ Below wo.heap.size wo w'))
          have KK := Lib.hid (fun (E : World) (hE : Below wo.heap.size wo E) => (⟨⟨keepc hE hwl k0, keepc hE hwl k1⟩, keepc hE hbr d0⟩ : (E.cell? ⟨w.heap.size, 0, none⟩ = some (.slice p x.cs.length c1) ∧ E.cell? ⟨w.heap.size, 1, none⟩ = some (.slice q x.rs.length d)) ∧ E.cell? ⟨bb, off + j, none⟩ = some (.string c)))
          have r9 := Below.refl wo.heap.size wo
          go_upto_region 7 with fail
          go_cut [8] (fun s wx => s = .int .i64 z ∧ Below wo.heap.size wo wx)
          case first =>
            refine wp_region_held_drew (S := fun w' => (w'.cell? ⟨w.heap.size, 0, none⟩ = some (.slice p x.cs.length c1) ∧ w'.cell? ⟨w.heap.size, 1, none⟩ = some (.slice q x.rs.length d)) ∧ w'.cell? ⟨bb, off + j, none⟩ = some (.string c)) (by kernel_rfl) ?_ (fun hHeld => ?_)
            · exact KK.out _ (show Below wo.heap.size wo _ by ((repeat (first | with_reducible assumption | with_reducible exact Below.refl _ _ | refine Below.setCell ?_ (by (first | omega | (simp; omega) | (simp; done) | fail "sml")) _ | refine Below.drew ?_ | refine Below.alloc ?_ (by (first | omega | (simp; omega) | (simp; done) | fail "sml")) _)); first | done | fail "chs"))
            (refine takeL (i := 0) (v := ?_) rfl (by kernel_rfl) (by kernel_rfl) (by kernel_rfl) (fun _ _ _ h => h) (Or.inl ⟨by kernel_rfl, ?_⟩) (by assumption) ?_; rotate_left; (focus (intro w hSw; (try dsimp only at hSw); go_simp; first | done | with_reducible rfl | fail "take")); (try simp only [Act.put, List.setIfInBounds_toArray, List.set_cons_zero, List.set_cons_succ]))
            (refine takeL (i := 1) (v := ?_) rfl (by kernel_rfl) (by kernel_rfl) (by kernel_rfl) (fun _ _ _ h => h) (Or.inl ⟨by kernel_rfl, ?_⟩) (by assumption) ?_; rotate_left; (focus (intro w hSw; (try dsimp only at hSw); go_simp; first | done | with_reducible rfl | fail "take")); (try simp only [Act.put, List.setIfInBounds_toArray, List.set_cons_zero, List.set_cons_succ]))
            (refine takeL (i := 2) (v := ?_) rfl (by kernel_rfl) (by kernel_rfl) (by kernel_rfl) (fun _ _ _ h => h) (Or.inl ⟨by kernel_rfl, ?_⟩) (by assumption) ?_; rotate_left; (focus (intro w hSw; (try dsimp only at hSw); go_simp; first | done | with_reducible rfl | fail "take")); (try simp only [Act.put, List.setIfInBounds_toArray, List.set_cons_zero, List.set_cons_succ]))
            (refine takeL (i := 3) (v := ?_) rfl (by kernel_rfl) (by kernel_rfl) (by kernel_rfl) (fun _ _ _ h => h) (Or.inl ⟨by kernel_rfl, ?_⟩) (by assumption) ?_; rotate_left; (focus (intro w hSw; (try dsimp only at hSw); go_simp; first | done | with_reducible rfl | fail "take")); (try simp only [Act.put, List.setIfInBounds_toArray, List.set_cons_zero, List.set_cons_succ]))
            (refine takeL (i := 4) (v := ?_) rfl (by kernel_rfl) (by kernel_rfl) (by kernel_rfl) (fun _ _ _ h => h) (Or.inl ⟨by kernel_rfl, ?_⟩) (by assumption) ?_; rotate_left; (focus (intro w hSw; (try dsimp only at hSw); go_simp; first | done | with_reducible rfl | fail "take")); (try simp only [Act.put, List.setIfInBounds_toArray, List.set_cons_zero, List.set_cons_succ]))
            (refine callL (i := 5) rfl (by kernel_rfl) (by kernel_rfl) (fun K hK => ?_); go_simp)
            go_at_call 80
            with_reducible refine (CC.out _ (by ((repeat (first | with_reducible assumption | with_reducible exact Below.refl _ _ | refine Below.setCell ?_ (by (first | omega | (simp; omega) | (simp; done) | fail "sml")) _ | refine Below.drew ?_ | refine Below.alloc ?_ (by (first | omega | (simp; omega) | (simp; done) | fail "sml")) _)); first | done | fail "chs"))).mono ?_
            rintro en wa ⟨rfl, hka⟩
            go_wp2_with fail
            refine hK.out _ _ ?_ (fun hHeld => ?_)
            · exact KK.out _ (show Below wo.heap.size wo _ by ((repeat (first | with_reducible assumption | with_reducible exact Below.refl _ _ | refine Below.setCell ?_ (by (first | omega | (simp; omega) | (simp; done) | fail "sml")) _ | refine Below.drew ?_ | refine Below.alloc ?_ (by (first | omega | (simp; omega) | (simp; done) | fail "sml")) _)); first | done | fail "chs"))
            clear hK K
            (try simp only [Act.put, List.setIfInBounds_toArray, List.set_cons_zero, List.set_cons_succ])
            (refine takeL (i := 6) (v := ?_) rfl (by kernel_rfl) (by kernel_rfl) (by kernel_rfl) (fun _ _ _ h => h) (Or.inl ⟨by kernel_rfl, ?_⟩) (by assumption) ?_; rotate_left; (focus (intro w hSw; (try dsimp only at hSw); go_simp; first | done | with_reducible rfl | fail "take")); (try simp only [Act.put, List.setIfInBounds_toArray, List.set_cons_zero, List.set_cons_succ]))
            refine wpAnyH_done (by kernel_rfl) ?_ _
            go_wp2_with fail
            go_meet
            exact ⟨rfl, by ((repeat (first | with_reducible assumption | with_reducible exact Below.refl _ _ | refine Below.setCell ?_ (by (first | omega | (simp; omega) | (simp; done) | fail "sml")) _ | refine Below.drew ?_ | refine Below.alloc ?_ (by (first | omega | (simp; omega) | (simp; done) | fail "sml")) _)); first | done | fail "chs")⟩
          case rest =>
            obtain ⟨rfl, hbx⟩ := hcut
            have HB4 := Lib.hid (HBA.out.trans (hbx.mono (by omega)))
            have HR4 := Lib.hid (HB.out.trans (hbx.mono (by omega)))
            have sx := hbx.size
            have HO4 := Lib.hid (HO.out.below hbx)
            obtain ⟨w4, ew4⟩ : ∃ u, u = wc := ⟨_, rfl⟩
            subst ew4
            clear hbx k0 k1 k2 k3 k4 k5 kz d0
            obtain ⟨⟨kz, k0, k1⟩, ⟨k2, k3⟩, k4, k5⟩ := HK.out w4 HR4.out
            by_cases hz : z < 0
            · have HTF := Lib.hid (HC3.out hz)
              have hT := HTF.out
              subst hT
              have hR := CNO.out rfl
              subst hR
              have hdz : decide (z < 0) = true := decide_eq_true hz
              go_wp2_with fail
              exact bodyPost_ret (v := .tuple #[.agg #[.slice none 0 0, .slice none 0 0], .bool false]) (by simp [results, Try.results44, go_sem, k2, k3]) rfl (TbPost.no ((HB4.out.setCell (by simp) _).setCell (by simp) _))
            · have hdz : decide (z < 0) = false := decide_eq_false hz
              have HGM := Lib.hid (HGN.out (by omega))
              have HAPP := Lib.hid (fun (ty : TypeId) => app_int HO4.out z (by have := HZL.out; omega) ty)
              go_wp2_with (at_builtin; refine wpApp rfl (.tmp 38) (.tmp 40) 23 rfl _ _ rfl rfl _ (HAPP.out _) ?_; rintro v6 w6 ⟨F6, ho6, hf6, hc6⟩; have HO6 := Lib.hid ho6; have HF6 := Lib.hid hf6; have HC6 := Lib.hid hc6; clear ho6 hf6 hc6)
              go_roundw
              case rel =>
                exact ⟨j + 1, F6, by omega, by go_num, Lib.hid (by rw [HTK.out]; exact HO6.out), Lib.hid (fun y hy => by
                  rcases HF6.out y hy with h | h
                  · exact HF.out y h
                  · omega), HGM, Lib.hid (HR4.out.trans (HC6.out.below (by omega) (fun y hy => HF.out y hy)))⟩
              case measure => simp [intOf]; omega
        · obtain rfl : j = cs.length := by omega
          have HTT := Lib.hid (CFIN.out HE.out HNA.out (fun k hk => HG.out k hk hk))
          have HFR := Lib.hid (CYES.out HTT.out)
          have hT := HTT.out
          have hR := HFR.out
          clear CYES CFIN CNO C3 HTT HFR
          subst hT hR
          obtain ⟨pa, ca, hvf⟩ := HO.out.form
          rw [List.take_length, List.length_map] at hvf
          subst hvf
          have HAT := Lib.hid (show Sl 1 intCells wo.heap.size wo (.slice pa cs.length ca) (cs.map (colAt x.cs)) from by
            have h9 := HO.out.own.sl
            rw [List.take_length] at h9
            exact h9)
          have hat := HAT.out.max
          unfold maxLen at hat
          clear HO HF
          have rr1 := Below.refl wo.heap.size wo
          have klt : w.heap.size < wo.heap.size := by omega
          go_wp2_with (at_builtin; refine wpApp rfl (.tmp 42) (.tmp 43) 30 rfl _ _ rfl rfl _ (strNone (OwnS.empty _) (HCR.out.to ((HBA.out.trans ((show Below wo.heap.size wo _ by ((repeat (first | with_reducible assumption | with_reducible exact Below.refl _ _ | refine Below.setCell ?_ (by (first | omega | (simp; omega) | (simp; done) | fail "sml")) _ | refine Below.drew ?_ | refine Below.alloc ?_ (by (first | omega | (simp; omega) | (simp; done) | fail "sml")) _)); first | done | fail "chs")).mono (by omega))).mono hB) (Nat.le_refl _)) (by omega) _) ?_; rintro v2 w5 ⟨F2, p2, c2, rfl, ho2, hf2, hb2⟩; have hs5 : wo.heap.size < w5.heap.size := (by have := hb2.size; simp at this; omega); have HB5 := Lib.hid ((show Below wo.heap.size wo _ by ((repeat (first | with_reducible assumption | with_reducible exact Below.refl _ _ | refine Below.setCell ?_ (by (first | omega | (simp; omega) | (simp; done) | fail "sml")) _ | refine Below.drew ?_ | refine Below.alloc ?_ (by (first | omega | (simp; omega) | (simp; done) | fail "sml")) _)); first | done | fail "chs")).trans (hb2.mono (by simp))); have HF2 := Lib.hid (show ∀ y ∈ F2, wo.heap.size ≤ y from fun y hy => by have := hf2 y hy; simp at this; omega); have HO2 := Lib.hid ho2; clear ho2 hf2 hb2)
          obtain ⟨W7, eW7⟩ : ∃ u, u = w5.alloc (.cells #[.slice p2 cs.length c2, .slice none 0 0] 33) := ⟨_, rfl⟩
          rw [← eW7]
          have hs7 : w5.heap.size < W7.heap.size := by rw [eW7]; simp
          have hb7 : Below w5.heap.size w5 W7 := by rw [eW7]; exact (Below.refl _ _).alloc (Nat.le_refl _) _
          have HT7 := Lib.hid (show TAcc cs ((pkRs x cs).take 0) w5.heap.size wo.heap.size (.slice p2 cs.length c2) (.slice none 0 0) W7 by
            have h2 := HO2.out.below hb7
            have hlt := HO2.out.lt
            rw [eW7] at h2 ⊢
            exact ⟨⟨by omega, by simp⟩, ⟨by simp [go_sem], by simp [go_sem]⟩, ⟨by simp [go_sem], by simp [go_sem]⟩, F2, [], h2, by simpa using Kd.OwB.nil kRow _ _ _, fun y hy => ⟨by have := HF2.out y hy; omega, by have := hlt y hy; omega⟩, by simp, by simp⟩)
          have HB7 := Lib.hid (HB5.out.trans (hb7.mono (by omega)))
          obtain ⟨kb, ekb⟩ : ∃ k, k = w5.heap.size := ⟨_, rfl⟩
          rw [← ekb] at HT7 ⊢
          have hkb : wo.heap.size ≤ kb := by omega
          clear eW7 hb7 HO2 HF2 ekb k0 k1 k2 k3 k4 k5 kz
          go_wp2_with fail
          go_loopw [10] (fun i wr => ∃ (k : Nat) (b : Value), k ≤ x.rs.length ∧ i = .int .i64 k ∧ RowKit.Hid (TAcc cs ((pkRs x cs).take k) kb wo.heap.size (.slice p2 cs.length c2) b wr) ∧ RowKit.Hid (Below wo.heap.size wo wr)) (fun i _ => x.rs.length - (intOf i).toNat)
          case atStart => exact ⟨0, _, Nat.zero_le _, rfl, HT7, HB7⟩
          case round =>
            rename World => w8
            clear HT7 HB7
            obtain ⟨k, b, hk, rfl, HTA, HB8⟩ := hrel
            have s8 := HB8.out.size
            have HR8 := Lib.hid (HB.out.trans (HB8.out.mono (by omega)))
            have HBA8 := Lib.hid (HBA.out.trans (HB8.out.mono (by omega)))
            obtain ⟨⟨kz, k0, k1⟩, ⟨k2, k3⟩, k4, k5⟩ := HK.out w8 HR8.out
            by_cases hlt : k < x.rs.length
            · obtain ⟨b2, o2, q2, c3, rfl, hbb, d0, hin⟩ := kRow_get (HBR.out.to (HBA8.out.mono hB) (Nat.le_refl _)) hlt
              have hyl := (HLN.out.2.2 _ (List.getElem_mem hlt)).1
              have hpn : (pkRs x cs).take (k + 1) = (pkRs x cs).take k ++ [pkRow x.cs x.rs[k] cs] := by
                rw [List.take_succ_eq_append_getElem (by rw [CPL.out]; exact hlt)]
                simp only [pkRs, List.getElem_map]
              obtain ⟨y, ey⟩ : ∃ y, y = x.rs[k] := ⟨_, rfl⟩
              rw [← ey] at d0 hin hyl hpn
              obtain ⟨Z, eZ⟩ : ∃ Z, Z = (pkRs x cs).take k := ⟨_, rfl⟩
              have hZl : Z.length ≤ 400 := by rw [eZ, List.length_take, CPL.out]; have := HLN.out.2.1; omega
              rw [← eZ] at HTA hpn
              obtain ⟨⟨hlo, hkl⟩, ⟨x0, x1⟩, _, _⟩ := HTA.out
              obtain ⟨_, _, qb, cb, _, rfl⟩ := HTA.out.form
              have HPN := Lib.hid hpn
              have hym := hin.max
              unfold maxLen at hym
              have HIN := Lib.hid hin
              have hkk : (k : Int) < (x.rs.length : Int) := by omega
              have hbr : b2 < w8.heap.size := by omega
              have hwl : w.heap.size < w8.heap.size := by omega
              have HAT8 := Lib.hid (HAT.out.below HB8.out)
              have KC := Lib.hid (fun (E : World) (hE : Below w8.heap.size w8 E) => (⟨keepc hE hwl k1, keepc hE hbr d0⟩ : E.cell? ⟨w.heap.size, 1, none⟩ = some (.slice (some ⟨b2, o2, none⟩) x.rs.length d) ∧ E.cell? ⟨b2, o2 + k, none⟩ = some (.slice q2 y.length c3)))
              have X1 := Lib.hid x1
              have HYY := Lib.hid hyl
              clear ey eZ hin hpn x0 x1 hyl
              go_wp2_with fail
              clear k0 k1 k2 k3 k4 k5 kz d0
              go_loopw [11, 12] (fun vr i wi => ∃ (m : Nat) (F : List Nat), m ≤ cs.length ∧ i = .int .i64 m ∧ RowKit.Hid (OwnI wi vr (pkRow x.cs y (cs.take m)) F) ∧ RowKit.Hid (∀ b ∈ F, w8.heap.size ≤ b) ∧ RowKit.Hid (Below w8.heap.size w8 wi)) (fun _ i _ => cs.length - (intOf i).toNat)
              case atStart => exact ⟨0, [], Nat.zero_le _, rfl, Lib.hid (by simpa [pkRow] using OwnI.empty _ _), Lib.hid (by simp), Lib.hid ((Below.refl _ _).alloc (Nat.le_refl _) _)⟩
              case round =>
                obtain ⟨m, F, hm, rfl, HO9, HF9, HB9⟩ := hrel
                have hs9 := HB9.out.size
                obtain ⟨pr, cr, hvr⟩ := HO9.out.form
                rw [pkRow_len, List.length_take, Nat.min_eq_left hm] at hvr
                subst hvr
                by_cases hmt : m < cs.length
                · have hnn := HG.out m hmt hmt
                  have hcr := colAt_range x.cs cs[m]
                  obtain ⟨a, ha⟩ := Int.eq_ofNat_of_zero_le hnn
                  have hay : a < y.length := by have := HYY.out; omega
                  have hnx := pkRow_succ (ns := x.cs) (y := y) hmt hay ha
                  obtain ⟨b4, o4, rfl, hb4, a0⟩ := HAT8.out.it (show m < (cs.map (colAt x.cs)).length by rw [List.length_map]; exact hmt)
                  rw [List.getElem_map, ha] at a0
                  obtain ⟨b5, o5, rfl, hb5, v0⟩ := HIN.out.it hay
                  obtain ⟨u, eu⟩ : ∃ u, u = y[a] := ⟨_, rfl⟩
                  rw [← eu] at v0 hnx
                  obtain ⟨Y, eY⟩ : ∃ Y, Y = pkRow x.cs y (cs.take m) := ⟨_, rfl⟩
                  have hYl : Y.length = m := by rw [eY, pkRow_len, List.length_take]; omega
                  rw [← eY] at HO9 hnx
                  have HNX := Lib.hid hnx
                  have HYL := Lib.hid hYl
                  have hmm : (m : Int) < (cs.length : Int) := by omega
                  have haa : (a : Int) < (y.length : Int) := by omega
                  have hb4l : b4 < w8.heap.size := by omega
                  have hb5l : b5 < w8.heap.size := by omega
                  have DK := Lib.hid (fun (E : World) (hE : Below w8.heap.size w8 E) => (⟨KC.out E hE, keepc hE hb4l a0, keepc hE hb5l v0⟩ : (E.cell? ⟨w.heap.size, 1, none⟩ = some (.slice (some ⟨b2, o2, none⟩) x.rs.length d) ∧ E.cell? ⟨b2, o2 + k, none⟩ = some (.slice (some ⟨b5, o5, none⟩) y.length c3)) ∧ E.cell? ⟨b4, o4 + m, none⟩ = some (.int .i64 a) ∧ E.cell? ⟨b5, o5 + a, none⟩ = some (.int .i64 u)))
                  clear hnn hcr ha hnx eu eY hYl a0 v0
                  go_upto_region 19 with fail
                  refine wp_region_held_drew (S := fun w' => (w'.cell? ⟨w.heap.size, 1, none⟩ = some (.slice (some ⟨b2, o2, none⟩) x.rs.length d) ∧ w'.cell? ⟨b2, o2 + k, none⟩ = some (.slice (some ⟨b5, o5, none⟩) y.length c3)) ∧ w'.cell? ⟨b4, o4 + m, none⟩ = some (.int .i64 a) ∧ w'.cell? ⟨b5, o5 + a, none⟩ = some (.int .i64 u)) (by kernel_rfl) ?_ (fun hHeld => ?_)
                  · exact DK.out _ HB9.out.drew
                  have cW : Below wr.heap.size wr wr.drew := (Below.refl _ _).drew
                  have c8 : Below w8.heap.size w8 wr.drew := HB9.out.drew
                  have szW : wr.heap.size ≤ wr.drew.heap.size := Nat.le_refl _
                  generalize wr.drew = Z0 at cW c8 hHeld szW ⊢
                  (refine takeL (i := 0) (v := ?_) rfl (by kernel_rfl) (by kernel_rfl) (by kernel_rfl) (fun _ _ _ h => h) (Or.inl ⟨by kernel_rfl, ?_⟩) (by assumption) ?_; rotate_left; (focus (intro w hSw; (try dsimp only at hSw); go_simp; first | done | with_reducible rfl | fail "take")); (try simp only [Act.put, List.setIfInBounds_toArray, List.set_cons_zero, List.set_cons_succ]))
                  (refine takeL (i := 1) (v := ?_) rfl (by kernel_rfl) (by kernel_rfl) (by kernel_rfl) (fun _ _ _ h => h) (Or.inl ⟨by kernel_rfl, ?_⟩) (by assumption) ?_; rotate_left; (focus (intro w hSw; (try dsimp only at hSw); go_simp; first | done | with_reducible rfl | fail "take")); (try simp only [Act.put, List.setIfInBounds_toArray, List.set_cons_zero, List.set_cons_succ]))
                  (refine takeL (i := 2) (v := ?_) rfl (by kernel_rfl) (by kernel_rfl) (by kernel_rfl) (fun _ _ _ h => h) (Or.inl ⟨by kernel_rfl, ?_⟩) (by assumption) ?_; rotate_left; (focus (intro w hSw; (try dsimp only at hSw); go_simp; first | done | with_reducible rfl | fail "take")); (try simp only [Act.put, List.setIfInBounds_toArray, List.set_cons_zero, List.set_cons_succ]))
                  (refine takeL (i := 3) (v := ?_) rfl (by kernel_rfl) (by kernel_rfl) (by kernel_rfl) (fun _ _ _ h => h) (Or.inl ⟨by kernel_rfl, ?_⟩) (by assumption) ?_; rotate_left; (focus (intro w hSw; (try dsimp only at hSw); go_simp; first | done | with_reducible rfl | fail "take")); (try simp only [Act.put, List.setIfInBounds_toArray, List.set_cons_zero, List.set_cons_succ]))
                  (refine takeL (i := 4) (v := ?_) rfl (by kernel_rfl) (by kernel_rfl) (by kernel_rfl) (fun _ _ _ h => h) (Or.inl ⟨by kernel_rfl, ?_⟩) (by assumption) ?_; rotate_left; (focus (intro w hSw; (try dsimp only at hSw); go_simp; first | done | with_reducible rfl | fail "take")); (try simp only [Act.put, List.setIfInBounds_toArray, List.set_cons_zero, List.set_cons_succ]))
                  (refine takeL (i := 5) (v := ?_) rfl (by kernel_rfl) (by kernel_rfl) (by kernel_rfl) (fun _ _ _ h => h) (Or.inl ⟨by kernel_rfl, ?_⟩) (by assumption) ?_; rotate_left; (focus (intro w hSw; (try dsimp only at hSw); go_simp; first | done | with_reducible rfl | fail "take")); (try simp only [Act.put, List.setIfInBounds_toArray, List.set_cons_zero, List.set_cons_succ]))
                  (refine takeL (i := 6) (v := ?_) rfl (by kernel_rfl) (by kernel_rfl) (by kernel_rfl) (fun _ _ _ h => h) (Or.inl ⟨by kernel_rfl, ?_⟩) (by assumption) ?_; rotate_left; (focus (intro w hSw; (try dsimp only at hSw); go_simp; first | done | with_reducible rfl | fail "take")); (try simp only [Act.put, List.setIfInBounds_toArray, List.set_cons_zero, List.set_cons_succ]))
                  (refine takeL (i := 7) (v := ?_) rfl (by kernel_rfl) (by kernel_rfl) (by kernel_rfl) (fun _ _ _ h => h) (Or.inl ⟨by kernel_rfl, ?_⟩) (by assumption) ?_; rotate_left; (focus (intro w hSw; (try dsimp only at hSw); go_simp; first | done | with_reducible rfl | fail "take")); (try simp only [Act.put, List.setIfInBounds_toArray, List.set_cons_zero, List.set_cons_succ]))
                  (refine takeL (i := 8) (v := ?_) rfl (by kernel_rfl) (by kernel_rfl) (by kernel_rfl) (fun _ _ _ h => h) (Or.inl ⟨by kernel_rfl, ?_⟩) (by assumption) ?_; rotate_left; (focus (intro w hSw; (try dsimp only at hSw); go_simp; first | done | with_reducible rfl | fail "take")); (try simp only [Act.put, List.setIfInBounds_toArray, List.set_cons_zero, List.set_cons_succ]))
                  (refine takeL (i := 9) (v := ?_) rfl (by kernel_rfl) (by kernel_rfl) (by kernel_rfl) (fun _ _ _ h => h) (Or.inl ⟨by kernel_rfl, ?_⟩) (by assumption) ?_; rotate_left; (focus (intro w hSw; (try dsimp only at hSw); go_simp; first | done | with_reducible rfl | fail "take")); (try simp only [Act.put, List.setIfInBounds_toArray, List.set_cons_zero, List.set_cons_succ]))
                  (refine takeL (i := 10) (v := ?_) rfl (by kernel_rfl) (by kernel_rfl) (by kernel_rfl) (fun _ _ _ h => h) (Or.inl ⟨by kernel_rfl, ?_⟩) (by assumption) ?_; rotate_left; (focus (intro w hSw; (try dsimp only at hSw); go_simp; first | done | with_reducible rfl | fail "take")); (try simp only [Act.put, List.setIfInBounds_toArray, List.set_cons_zero, List.set_cons_succ]))
                  (refine takeL (i := 11) (v := ?_) rfl (by kernel_rfl) (by kernel_rfl) (by kernel_rfl) (fun _ _ _ h => h) (Or.inl ⟨by kernel_rfl, ?_⟩) (by assumption) ?_; rotate_left; (focus (intro w hSw; (try dsimp only at hSw); go_simp; first | done | with_reducible rfl | fail "take")); (try simp only [Act.put, List.setIfInBounds_toArray, List.set_cons_zero, List.set_cons_succ]))
                  (refine callL (i := 12) rfl (by kernel_rfl) (by kernel_rfl) (fun K hK => ?_); go_simp)
                  refine hK.out _ _ (DK.out _ (show Below w8.heap.size w8 _ by ((repeat (first | with_reducible assumption | with_reducible exact Below.refl _ _ | refine Below.setCell ?_ (by (first | omega | (simp; omega) | (simp; done) | fail "sml")) _ | refine Below.drew ?_ | refine Below.alloc ?_ (by (first | omega | (simp; omega) | (simp; done) | fail "sml")) _)); first | done | fail "chs"))) (fun hHeld => ?_)
                  clear hK K
                  (try simp only [Act.put, List.setIfInBounds_toArray, List.set_cons_zero, List.set_cons_succ])
                  refine callL (i := 13) rfl (by kernel_rfl) (by kernel_rfl) (fun K hK => ?_)
                  refine wp_app (.tmp 60) (.tmp 72) 23 (by rfl) _ _ (by rfl) (by rfl) _ (app_int (HO9.out.below cW) u (by have := HYL.out; omega) _) ?_
                  rintro v6 w6 ⟨F6, ho6, hf6, hc6⟩
                  have c86 := c8.trans (hc6.below (B := w8.heap.size) (by omega) (fun y hy => HF9.out y hy))
                  obtain ⟨pq, cq, hv6⟩ := ho6.form
                  rw [List.length_append, List.length_singleton, HYL.out] at hv6
                  subst hv6
                  have HO6 := Lib.hid ho6
                  have HF6 := Lib.hid (show ∀ b ∈ F6, w8.heap.size ≤ b from fun b hb => by
                    rcases hf6 b hb with h | h
                    · exact HF9.out b h
                    · omega)
                  have HC6 := Lib.hid c86
                  clear ho6 hf6 hc6
                  refine hK.out _ _ (DK.out _ c86) (fun hHeld => ?_)
                  clear hK K
                  (try simp only [Act.put, List.setIfInBounds_toArray, List.set_cons_zero, List.set_cons_succ])
                  (refine takeL (i := 14) (v := ?_) rfl (by kernel_rfl) (by kernel_rfl) (by kernel_rfl) (fun _ _ _ h => h) (Or.inl ⟨by kernel_rfl, ?_⟩) (by assumption) ?_; rotate_left; (focus (intro w hSw; (try dsimp only at hSw); go_simp; first | done | with_reducible rfl | fail "take")); (try simp only [Act.put, List.setIfInBounds_toArray, List.set_cons_zero, List.set_cons_succ]))
                  refine wpAnyH_done (by kernel_rfl) ?_ _
                  go_wp2_with fail
                  go_roundw
                  case rel => exact ⟨m + 1, F6, by omega, by go_num, Lib.hid (by rw [HNX.out]; exact HO6.out), HF6, HC6⟩
                  case measure => simp [intOf]; omega
                · obtain rfl : m = cs.length := by omega
                  rw [List.take_length] at HO9
                  obtain ⟨Y, eY⟩ : ∃ Y, Y = pkRow x.cs y cs := ⟨_, rfl⟩
                  have hYl : Y.length = cs.length := by rw [eY, pkRow_len]
                  rw [← eY] at HO9 HPN
                  have HAPP := HTA.out.app (E := wr.alloc (.cells #[.slice pr cs.length cr] 23)) (HB9.out.alloc hs9 _) 31 Y pr cr F wr.heap.size 1 (by rw [hYl]; exact (HO9.out.below ((Below.refl _ _).alloc (Nat.le_refl _) _)).own) HF9.out (by rw [hYl]; simp [go_sem]) (by omega)
                  have x1 := keepc HB9.out hkl X1.out
                  clear eY hYl
                  go_wp2_with (at_builtin; refine wpApp rfl (.tmp 75) (.tmp 77) 31 rfl _ _ rfl rfl _ HAPP ?_; rintro v' w' ⟨⟨e0, e1, e2, e3⟩, hT6, hb6⟩; obtain ⟨_, _, q6, c6, _, hvf⟩ := hT6.form; rw [List.length_append, List.length_singleton] at hvf; subst hvf; have HT6 := Lib.hid (show TAcc cs ((pkRs x cs).take (k + 1)) kb wo.heap.size (.slice p2 cs.length c2) (.slice q6 (Z.length + 1) c6) (w'.setCell ⟨kb, 1, none⟩ (.slice q6 (Z.length + 1) c6)) from by rw [HPN.out]; exact hT6); have HB6 := Lib.hid (HB8.out.trans hb6); clear hT6 hb6 HAPP)
                  go_roundw
                  case rel => exact ⟨k + 1, _, by omega, by go_num, HT6, HB6⟩
                  case measure => simp [intOf]; omega
            · obtain rfl : k = x.rs.length := by omega
              have HTZ := Lib.hid (show TAcc cs (pkRs x cs) kb wo.heap.size (.slice p2 cs.length c2) b w8 by
                have h9 := HTA.out
                rwa [List.take_of_length_le (by rw [CPL.out]; omega)] at h9)
              clear HTA
              obtain ⟨⟨_, hkl⟩, ⟨x0, x1⟩, ⟨g0, g1⟩, _⟩ := HTZ.out
              obtain ⟨_, _, qb, cb, _, rfl⟩ := HTZ.out.form
              obtain ⟨FT, hH, hFT⟩ := HTZ.out.has
              have HH := Lib.hid hH
              have HFT := Lib.hid hFT
              clear hH hFT
              go_wp2_with fail
              exact bodyPost_ret (v := .tuple #[.agg #[.slice p2 cs.length c2, .slice qb (pkRs x cs).length cb], .bool true]) (by simp [results, Try.results44, go_sem, k2, k3]) rfl ⟨_, FT, rfl, HH.out.chg (G := [w.heap.size + 1]) (((Chg.refl _ _).setCell (by simp) _).setCell (by simp) _) (fun y hy => by have := (HFT.out y hy).1; simp; omega), fun y hy => by have := (HFT.out y hy).1; omega, (HBA8.out.setCell (by simp) _).setCell (by simp) _⟩
end Go.Proofs.Ytfdkmngkpihpbaa
