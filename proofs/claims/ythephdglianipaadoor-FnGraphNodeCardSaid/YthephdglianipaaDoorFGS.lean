/- FormatGraph: the model's side. -/
import Derived.Test.YthephdglianipaaDoorFG
import Derived.Test.YthephdglianipaaDoorSGValid
namespace Go.Proofs.YthephdglianipaaDoor
open Go.RowKit

theorem baf_assoc (a b c : ByteArray) : a ++ b ++ c = a ++ (b ++ c) := by simp [ByteArray.append_assoc]

set_option maxRecDepth 100000 in
set_option maxHeartbeats 8000000 in
theorem specFormatGraph_any (g : Gr) (v : Value) (B : Nat) (w : World) (hg : g.At B w v) (hB : B ≤ w.heap.size) (hok : g.Ok) :
    Calls Tryd.prog 6 #[v] w fun e w' => e = .returned (.string (fmtG g)) ∧ Below w.heap.size w w' := by
  have HX := Lib.hid hg
  have HOK := Lib.hid hok
  obtain ⟨a, b, rfl, ha, hb⟩ := hg
  obtain ⟨p, cp, rfl⟩ := ha.form
  obtain ⟨q, cq, rfl⟩ := hb.form
  have hm := ha.max
  have hm2 := hb.max
  unfold maxLen at hm hm2
  have H1 := Lib.hid ha
  have H2 := Lib.hid hb
  clear ha hb hok
  obtain ⟨W, eW⟩ : ∃ W, W = w.alloc (.cells #[.slice p g.ns.length cp, .slice q g.es.length cq] 26) := ⟨_, rfl⟩
  have HV := Lib.hid (show Below w.heap.size w W by rw [eW]; exact (Below.refl _ _).alloc (Nat.le_refl _) _)
  have hs0 : w.heap.size + 1 ≤ W.heap.size := by rw [eW]; simp
  have HK := Lib.hid (show ∀ wk, Below (w.heap.size + 1) W wk → w.heap.size + 1 ≤ wk.heap.size ∧ wk.cell? ⟨w.heap.size, 0, none⟩ = some (.slice p g.ns.length cp) ∧ wk.cell? ⟨w.heap.size, 1, none⟩ = some (.slice q g.es.length cq) from
    fun wk hk => by rw [eW] at hk; exact one_box hk)
  have HA := Lib.hid (Below.refl (w.heap.size + 1) W)
  have EW := Lib.hid eW
  clear eW
  go_enter Tryd.func6, Tryd.ntmps6
  go_wp2_with fail
  rw [← EW.out]
  with_reducible refine (specGraphValid_any g _ B _ ((HX.out.below (HV.out.mono hB)).mono (Nat.le_refl _)) (by omega) HOK.out).mono ?_
  rintro e w1 ⟨rfl, hb1⟩
  have HA1 := Lib.hid (HA.out.trans (hb1.mono (by omega)))
  clear hb1 HA
  obtain ⟨hz, a0, a1⟩ := HK.out _ HA1.out
  cases hT : gv g with
  | false =>
    have HT := Lib.hid (show fmtG g = ⟨#[]⟩ by unfold fmtG; rw [hT]; rfl)
    clear hT
    go_wp2_with fail
    go_ret
    exact ⟨by rw [HT.out]; rfl, HV.out.trans (HA1.out.mono (by omega))⟩
  | true =>
    have HT := Lib.hid (show fmtG g = esT (nsT g.ns g.ns.length) g.es g.es.length by unfold fmtG; rw [hT]; rfl)
    have HP := Lib.hid (gvf_parts hT)
    have l1 := HP.out.1
    have l2 := HP.out.2.1
    clear hT
    go_wp2_with fail
    go_loopw [3, 4] (fun t i wr => ∃ (k : Nat) (T : ByteArray), k ≤ g.ns.length ∧ i = .int .i64 k ∧ t = .string T ∧ T.size ≤ 11 * k ∧ RowKit.Hid (T = nsT g.ns k) ∧ RowKit.Hid (Below (w.heap.size + 1) W wr)) (fun _ i _ => g.ns.length - (intOf i).toNat)
    case atStart => exact ⟨0, _, Nat.zero_le _, rfl, rfl, by simp [ByteArray.size], Lib.hid rfl, HA1⟩
    case round =>
      clear hz a0 a1 HA1
      obtain ⟨k, T, hk, rfl, rfl, hTs, HTK, HA⟩ := hrel
      obtain ⟨hz, a0, a1⟩ := HK.out _ HA.out
      by_cases hlt : k < g.ns.length
      · obtain ⟨b0, o0, rfl, hb0, c0, c1⟩ := (H1.out.below ((HV.out.mono hB).trans (HA.out.mono (by omega)))).nd hlt
        have hx := HP.out.2.2.1 _ (List.getElem_mem hlt)
        have HCN := Lib.hid (show ∀ wk, Below (w.heap.size + 1) W wk → wk.cell? ⟨b0, o0 + k * 2, none⟩ = some (.string g.ns[k].l) ∧ wk.cell? ⟨b0, o0 + k * 2 + 1, none⟩ = some (.int .i64 g.ns[k].n) from fun wk hk => by
          obtain ⟨b9, o9, e9, _, c8, c9⟩ := (H1.out.below ((HV.out.mono hB).trans (hk.mono (by omega)))).nd hlt
          cases e9; exact ⟨c8, c9⟩)
        have HN := Lib.hid (show nsT g.ns (k + 1) = nsT g.ns k ++ ((⟨#[40]⟩ : ByteArray) ++ (g.ns[k].l ++ (⟨#[32]⟩ : ByteArray) ++ dec g.ns[k].n) ++ (⟨#[41]⟩ : ByteArray)) by
          show nsT g.ns k ++ ndT (g.ns.getD k ⟨⟨#[]⟩, 0⟩) = _
          rw [getD_nd _ hlt]; rfl)
        obtain ⟨x, ex⟩ : ∃ x, x = g.ns[k] := ⟨_, rfl⟩
        rw [← ex] at c0 c1 hx HN HCN
        clear ex
        obtain ⟨TE, eTE⟩ : ∃ t, t = dec x.n := ⟨_, rfl⟩
        have hTE : TE.size ≤ 2 := by rw [eTE]; exact dec_size hx.2.1 hx.2.2
        rw [← eTE] at HN
        have CE := Lib.hid (fun (E : World) (hE : Below (w.heap.size + 1) W E) => show Calls Tryd.prog 14 #[.int .i64 x.n] E (fun en w' => en = .returned (.string TE) ∧ Below (w.heap.size + 1) W w') from
          (l14Dec_any x.n E hx.2.1 hx.2.2).mono fun en w' ⟨he, hb⟩ => ⟨by rw [he, eTE], hE.trans (hb.mono (by have := hE.size; omega))⟩)
        clear eTE
        rw [← HTK.out] at HN
        have n1 : (9223372036854775807 < T.size + 1) = False := eq_false (by omega)
        have n2 : (9223372036854775807 < T.size + 1 + x.l.size) = False := eq_false (by omega)
        have n3 : (9223372036854775807 < T.size + 1 + x.l.size + 1) = False := eq_false (by omega)
        have n4 : (9223372036854775807 < T.size + 1 + x.l.size + 1 + TE.size) = False := eq_false (by omega)
        have n5 : (9223372036854775807 < T.size + 1 + x.l.size + 1 + TE.size + 1) = False := eq_false (by omega)
        have hki : (k : Int) < (g.ns.length : Int) := by omega
        have hk0 : (0 : Int) ≤ (k : Int) := by omega
        have HS := Lib.hid (show (T ++ (⟨#[40]⟩ : ByteArray) ++ x.l ++ (⟨#[32]⟩ : ByteArray) ++ TE ++ (⟨#[41]⟩ : ByteArray)).size ≤ 11 * (k + 1) by
          simp only [ByteArray.size_append]
          have : (⟨#[40]⟩ : ByteArray).size = 1 := rfl
          have : (⟨#[32]⟩ : ByteArray).size = 1 := rfl
          have : (⟨#[41]⟩ : ByteArray).size = 1 := rfl
          omega)
        have HN2 := Lib.hid (show T ++ (⟨#[40]⟩ : ByteArray) ++ x.l ++ (⟨#[32]⟩ : ByteArray) ++ TE ++ (⟨#[41]⟩ : ByteArray) = nsT g.ns (k + 1) by
          rw [HN.out]; simp only [baf_assoc])
        have rr0 := HA.out
        go_upto_region 7 with fail
        go_region_held3 (fun w' => w'.cell? ⟨w.heap.size, 0, none⟩ = some (.slice (some ⟨b0, o0, none⟩) g.ns.length cp) ∧ w'.cell? ⟨b0, o0 + k * 2, none⟩ = some (.string x.l) ∧ w'.cell? ⟨b0, o0 + k * 2 + 1, none⟩ = some (.int .i64 x.n))
          (exact (fun hk => ⟨(HK.out _ hk).2.1, HCN.out _ hk⟩) (show Below (w.heap.size + 1) W _ by ((repeat (first | with_reducible assumption | with_reducible exact Below.refl _ _ | refine Below.setCell ?_ (by (first | omega | (simp; omega) | (simp; done) | fail "sml")) _ | refine Below.drew ?_ | refine Below.alloc ?_ (by (first | omega | (simp; omega) | (simp; done) | fail "sml")) _)); first | done | fail "chs")))
          (first
            | (go_at_call 14; with_reducible refine (CE.out _ (by ((repeat (first | with_reducible assumption | with_reducible exact Below.refl _ _ | refine Below.setCell ?_ (by (first | omega | (simp; omega) | (simp; done) | fail "sml")) _ | refine Below.drew ?_ | refine Below.alloc ?_ (by (first | omega | (simp; omega) | (simp; done) | fail "sml")) _)); first | done | fail "chs"))).mono ?_; rintro en wa ⟨rfl, hka⟩)
            | fail "no arm")
        all_goals
          (go_wp2_with fail
           go_roundw
           · exact ⟨k + 1, _, by omega, by go_num, rfl, HS.out, HN2, Lib.hid (show Below (w.heap.size + 1) W _ by ((repeat (first | with_reducible assumption | with_reducible exact Below.refl _ _ | refine Below.setCell ?_ (by (first | omega | (simp; omega) | (simp; done) | fail "sml")) _ | refine Below.drew ?_ | refine Below.alloc ?_ (by (first | omega | (simp; omega) | (simp; done) | fail "sml")) _)); first | done | fail "chs"))⟩
           · simp [intOf]; omega)
      · obtain rfl : k = g.ns.length := by omega
        rw [← HTK.out] at HT
        obtain ⟨T0, eT0⟩ : ∃ T0, T0 = T := ⟨_, rfl⟩
        have hT0 : T0.size ≤ 88 := by rw [eT0]; omega
        rw [← eT0] at HT
        have HE0 := Lib.hid eT0.symm
        clear eT0 HTK
        go_wp2_with fail
        go_loopw [3, 5] (fun t i wr => ∃ (k : Nat) (T : ByteArray), k ≤ g.es.length ∧ i = .int .i64 k ∧ t = .string T ∧ T.size ≤ 88 + 17 * k ∧ RowKit.Hid (T = esT T0 g.es k) ∧ RowKit.Hid (Below (w.heap.size + 1) W wr)) (fun _ i _ => g.es.length - (intOf i).toNat)
        case atStart => exact ⟨0, _, Nat.zero_le _, rfl, rfl, by rw [HE0.out]; omega, Lib.hid (by rw [HE0.out]; rfl), HA⟩
        case round =>
          clear hz a0 a1 HA
          obtain ⟨k, T, hk2, rfl, rfl, hTs, HTK, HA⟩ := hrel
          obtain ⟨hz, a0, a1⟩ := HK.out _ HA.out
          by_cases hlt : k < g.es.length
          · obtain ⟨b0, o0, rfl, hb0, c0, c1, c2, c3⟩ := (H2.out.below ((HV.out.mono hB).trans (HA.out.mono (by omega)))).ed hlt
            have hx := HP.out.2.2.2 _ (List.getElem_mem hlt)
            have HN := Lib.hid (show esT T0 g.es (k + 1) = esT T0 g.es k ++ ((⟨#[91]⟩ : ByteArray) ++ (dec g.es[k].f ++ (⟨#[62]⟩ : ByteArray) ++ dec g.es[k].t) ++ (⟨#[32]⟩ : ByteArray) ++ (g.es[k].l ++ (⟨#[32]⟩ : ByteArray) ++ dec g.es[k].n) ++ (⟨#[93]⟩ : ByteArray)) by
              show esT T0 g.es k ++ edT (g.es.getD k ⟨0, 0, ⟨#[]⟩, 0⟩) = _
              rw [getD_ed _ hlt]; rfl)
            obtain ⟨x, ex⟩ : ∃ x, x = g.es[k] := ⟨_, rfl⟩
            rw [← ex] at c0 c1 c2 c3 hx HN
            clear ex
            obtain ⟨hxf, hxt, hxl, hxn⟩ := hx
            rw [← HTK.out] at HN
            obtain ⟨W7, eW7⟩ : ∃ u, u = wr.alloc (.cells #[.int .i64 x.f, .int .i64 x.t, .string x.l, .int .i64 x.n] 42) := ⟨_, rfl⟩
            have hs7 : W7.heap.size = wr.heap.size + 1 := by rw [eW7]; simp
            have HC7 := Lib.hid (show ∀ wk, Below W7.heap.size W7 wk → wk.cell? ⟨wr.heap.size, 0, none⟩ = some (.int .i64 x.f) ∧ wk.cell? ⟨wr.heap.size, 1, none⟩ = some (.int .i64 x.t) ∧ wk.cell? ⟨wr.heap.size, 2, none⟩ = some (.string x.l) ∧ wk.cell? ⟨wr.heap.size, 3, none⟩ = some (.int .i64 x.n) from
              fun wk hk => by
                rw [eW7] at hk
                exact ⟨keepc hk (by simp) (by simp [go_sem]), keepc hk (by simp) (by simp [go_sem]), keepc hk (by simp) (by simp [go_sem]), keepc hk (by simp) (by simp [go_sem])⟩)
            have HA3 := Lib.hid (show Below (w.heap.size + 1) W W7 by rw [eW7]; exact HA.out.alloc hz _)
            have HL7 := Lib.hid (show w.heap.size + 1 ≤ W7.heap.size by omega)
            have HW7 := Lib.hid eW7
            clear eW7 hs7
            have hq : w.heap.size < wr.heap.size := by omega
            obtain ⟨TE, eTE⟩ : ∃ t, t = dec x.f := ⟨_, rfl⟩
            obtain ⟨TN, eTN⟩ : ∃ t, t = dec x.t := ⟨_, rfl⟩
            obtain ⟨TD, eTD⟩ : ∃ t, t = dec x.n := ⟨_, rfl⟩
            have hTE : TE.size ≤ 2 := by rw [eTE]; exact dec_size hxf.1 hxf.2
            have hTN : TN.size ≤ 2 := by rw [eTN]; exact dec_size hxt.1 hxt.2
            have hTD : TD.size ≤ 2 := by rw [eTD]; exact dec_size hxn.1 hxn.2
            rw [← eTE, ← eTN, ← eTD] at HN
            have CE := Lib.hid (fun (E : World) (hE : Below W7.heap.size W7 E) => show Calls Tryd.prog 14 #[.int .i64 x.f] E (fun en w' => en = .returned (.string TE) ∧ Below W7.heap.size W7 w') from
              (l14Dec_any x.f E hxf.1 hxf.2).mono fun en w' ⟨he, hb⟩ => ⟨by rw [he, eTE], hE.trans (hb.mono hE.size)⟩)
            have CN := Lib.hid (fun (E : World) (hE : Below W7.heap.size W7 E) => show Calls Tryd.prog 14 #[.int .i64 x.t] E (fun en w' => en = .returned (.string TN) ∧ Below W7.heap.size W7 w') from
              (l14Dec_any x.t E hxt.1 hxt.2).mono fun en w' ⟨he, hb⟩ => ⟨by rw [he, eTN], hE.trans (hb.mono hE.size)⟩)
            have CD := Lib.hid (fun (E : World) (hE : Below W7.heap.size W7 E) => show Calls Tryd.prog 14 #[.int .i64 x.n] E (fun en w' => en = .returned (.string TD) ∧ Below W7.heap.size W7 w') from
              (l14Dec_any x.n E hxn.1 hxn.2).mono fun en w' ⟨he, hb⟩ => ⟨by rw [he, eTD], hE.trans (hb.mono hE.size)⟩)
            clear eTE eTN eTD
            have n1 : (9223372036854775807 < T.size + 1) = False := eq_false (by omega)
            have n2 : (9223372036854775807 < T.size + 1 + TE.size) = False := eq_false (by omega)
            have n3 : (9223372036854775807 < T.size + 1 + TE.size + 1) = False := eq_false (by omega)
            have n4 : (9223372036854775807 < T.size + 1 + TE.size + 1 + TN.size) = False := eq_false (by omega)
            have n5 : (9223372036854775807 < T.size + 1 + TE.size + 1 + TN.size + 1) = False := eq_false (by omega)
            have n6 : (9223372036854775807 < T.size + 1 + TE.size + 1 + TN.size + 1 + x.l.size) = False := eq_false (by omega)
            have n7 : (9223372036854775807 < T.size + 1 + TE.size + 1 + TN.size + 1 + x.l.size + 1) = False := eq_false (by omega)
            have n8 : (9223372036854775807 < T.size + 1 + TE.size + 1 + TN.size + 1 + x.l.size + 1 + TD.size) = False := eq_false (by omega)
            have n9 : (9223372036854775807 < T.size + 1 + TE.size + 1 + TN.size + 1 + x.l.size + 1 + TD.size + 1) = False := eq_false (by omega)
            have HS := Lib.hid (show (T ++ (⟨#[91]⟩ : ByteArray) ++ TE ++ (⟨#[62]⟩ : ByteArray) ++ TN ++ (⟨#[32]⟩ : ByteArray) ++ x.l ++ (⟨#[32]⟩ : ByteArray) ++ TD ++ (⟨#[93]⟩ : ByteArray)).size ≤ 88 + 17 * (k + 1) by
              simp only [ByteArray.size_append]
              have : (⟨#[91]⟩ : ByteArray).size = 1 := rfl
              have : (⟨#[62]⟩ : ByteArray).size = 1 := rfl
              have : (⟨#[32]⟩ : ByteArray).size = 1 := rfl
              have : (⟨#[93]⟩ : ByteArray).size = 1 := rfl
              omega)
            have HN2 := Lib.hid (show T ++ (⟨#[91]⟩ : ByteArray) ++ TE ++ (⟨#[62]⟩ : ByteArray) ++ TN ++ (⟨#[32]⟩ : ByteArray) ++ x.l ++ (⟨#[32]⟩ : ByteArray) ++ TD ++ (⟨#[93]⟩ : ByteArray) = esT T0 g.es (k + 1) by
              rw [HN.out]; simp only [baf_assoc])
            go_upto_region 12 with fail
            rw [← HW7.out]
            have rr0 := Below.refl W7.heap.size W7
            obtain ⟨d0, d1, d2, d3⟩ := HC7.out _ rr0
            clear c0 c1 c2 c3 a0 a1
            go_region_held3 (fun w' => w'.cell? ⟨wr.heap.size, 0, none⟩ = some (.int .i64 x.f) ∧ w'.cell? ⟨wr.heap.size, 1, none⟩ = some (.int .i64 x.t) ∧ w'.cell? ⟨wr.heap.size, 2, none⟩ = some (.string x.l) ∧ w'.cell? ⟨wr.heap.size, 3, none⟩ = some (.int .i64 x.n))
              (exact (fun hk => HC7.out _ hk) (show Below W7.heap.size W7 _ by ((repeat (first | with_reducible assumption | with_reducible exact Below.refl _ _ | refine Below.setCell ?_ (by (first | omega | (simp; omega) | (simp; done) | fail "sml")) _ | refine Below.drew ?_ | refine Below.alloc ?_ (by (first | omega | (simp; omega) | (simp; done) | fail "sml")) _)); first | done | fail "chs")))
              (first
                | (go_at_call 14; with_reducible refine (CE.out _ (by ((repeat (first | with_reducible assumption | with_reducible exact Below.refl _ _ | refine Below.setCell ?_ (by (first | omega | (simp; omega) | (simp; done) | fail "sml")) _ | refine Below.drew ?_ | refine Below.alloc ?_ (by (first | omega | (simp; omega) | (simp; done) | fail "sml")) _)); first | done | fail "chs"))).mono ?_; rintro en wa ⟨rfl, hka⟩)
                | (go_at_call 14; with_reducible refine (CN.out _ (by ((repeat (first | with_reducible assumption | with_reducible exact Below.refl _ _ | refine Below.setCell ?_ (by (first | omega | (simp; omega) | (simp; done) | fail "sml")) _ | refine Below.drew ?_ | refine Below.alloc ?_ (by (first | omega | (simp; omega) | (simp; done) | fail "sml")) _)); first | done | fail "chs"))).mono ?_; rintro en wb ⟨rfl, hkb⟩)
                | (go_at_call 14; with_reducible refine (CD.out _ (by ((repeat (first | with_reducible assumption | with_reducible exact Below.refl _ _ | refine Below.setCell ?_ (by (first | omega | (simp; omega) | (simp; done) | fail "sml")) _ | refine Below.drew ?_ | refine Below.alloc ?_ (by (first | omega | (simp; omega) | (simp; done) | fail "sml")) _)); first | done | fail "chs"))).mono ?_; rintro en wd ⟨rfl, hkd⟩)
                | fail "no arm")
            all_goals
              (go_wp2_with fail
               go_roundw
               · exact ⟨k + 1, _, by omega, by go_num, rfl, HS.out, HN2, Lib.hid (HA3.out.trans ((show Below W7.heap.size W7 _ by ((repeat (first | with_reducible assumption | with_reducible exact Below.refl _ _ | refine Below.setCell ?_ (by (first | omega | (simp; omega) | (simp; done) | fail "sml")) _ | refine Below.drew ?_ | refine Below.alloc ?_ (by (first | omega | (simp; omega) | (simp; done) | fail "sml")) _)); first | done | fail "chs")).mono HL7.out))⟩
               · simp [intOf]; omega)
          · obtain rfl : k = g.es.length := by omega
            go_wp2_with fail
            go_ret
            exact ⟨by rw [HT.out, HTK.out]; rfl, HV.out.trans (HA.out.mono (by omega))⟩
end Go.Proofs.YthephdglianipaaDoor
