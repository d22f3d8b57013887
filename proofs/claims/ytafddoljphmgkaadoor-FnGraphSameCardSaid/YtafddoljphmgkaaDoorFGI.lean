/- FormatGraph: the program's side. -/
import Derived.Test.YtafddoljphmgkaaDoorFG
namespace Go.Proofs.YtafddoljphmgkaaDoor
open Go.RowKit

set_option maxRecDepth 100000 in
set_option maxHeartbeats 8000000 in
theorem formatGraph_any (g : Gr) (v : Value) (B : Nat) (w : World) (hg : g.At B w v) (hB : B ≤ w.heap.size) (hok : g.Ok) (hV : VarsI w) :
    Calls Tryd.prog 8 #[v] w fun e w' => e = .returned (.string (fmtG g)) ∧ Below w.heap.size w w' := by
  have HX := Lib.hid hg
  have HVI := Lib.hid hV
  have HOK := Lib.hid hok
  obtain ⟨a, b, rfl, ha, hb⟩ := hg
  obtain ⟨p, cp, rfl⟩ := ha.form
  obtain ⟨q, cq, rfl⟩ := hb.form
  have hm := ha.max
  have hm2 := hb.max
  unfold maxLen at hm hm2
  have H1 := Lib.hid ha
  have H2 := Lib.hid hb
  clear ha hb hV hok
  obtain ⟨W, eW⟩ : ∃ W, W = w.alloc (.cells #[.slice p g.ns.length cp, .slice q g.es.length cq] 26) := ⟨_, rfl⟩
  have HV := Lib.hid (show Below w.heap.size w W by rw [eW]; exact (Below.refl _ _).alloc (Nat.le_refl _) _)
  have hs0 : w.heap.size + 1 ≤ W.heap.size := by rw [eW]; simp
  have HK := Lib.hid (show ∀ wk, Below (w.heap.size + 1) W wk → w.heap.size + 1 ≤ wk.heap.size ∧ wk.cell? ⟨w.heap.size, 0, none⟩ = some (.slice p g.ns.length cp) ∧ wk.cell? ⟨w.heap.size, 1, none⟩ = some (.slice q g.es.length cq) from
    fun wk hk => by rw [eW] at hk; exact one_box hk)
  have HA := Lib.hid (Below.refl (w.heap.size + 1) W)
  have HVA := Lib.hid (show ∀ wk, Below (w.heap.size + 1) W wk → VarsI wk from fun wk hk => HVI.out.below (HV.out.trans (hk.mono (by omega))))
  have EW := Lib.hid eW
  clear eW
  go_enter Tryd.func8, Tryd.ntmps8
  go_wp2_with fail
  rw [← EW.out]
  with_reducible refine (graphValid_any g _ B _ ((HX.out.below (HV.out.mono hB)).mono (Nat.le_refl _)) (by omega) HOK.out).mono ?_
  rintro e w1 ⟨rfl, hb1⟩
  have hs1 := hb1.size
  have HA1 := Lib.hid (HA.out.trans (hb1.mono (by omega)))
  clear hb1 HA
  obtain ⟨hz, a0, a1⟩ := HK.out _ HA1.out
  cases hT : gv g with
  | false =>
    have HT := Lib.hid (show fmtG g = ⟨#[]⟩ by unfold fmtG; rw [hT]; rfl)
    clear hT
    go_wp2_with fail
    go_ret
    exact ⟨by rw [HT.out]; rfl, HV.out.trans (HA1.out.mono (by omega))⟩
  | true =>
    have HT := Lib.hid (show fmtG g = esT (nsT g.ns g.ns.length) g.es g.es.length by unfold fmtG; rw [hT]; rfl)
    have HP := Lib.hid (gvf_parts hT)
    have l1 := HP.out.1
    have l2 := HP.out.2.1
    clear hT
    have HB0 := Lib.hid (Bld.new w1)
    obtain ⟨W2, eW2⟩ : ∃ u, u = w1.alloc (.cells #[.pointer none, .slice none 0 0] 48) := ⟨_, rfl⟩
    rw [← eW2] at HB0
    have HA2 := Lib.hid (show Below (w.heap.size + 1) W W2 by rw [eW2]; exact HA1.out.alloc hz _)
    have hs2 : w1.heap.size + 1 ≤ W2.heap.size := by rw [eW2]; simp
    have EW2 := Lib.hid eW2
    clear eW2
    have hq : w.heap.size < w1.heap.size := by omega
    go_wp2_with fail
    rw [← EW2.out]
    go_loopw [15] (fun i wr => ∃ (k : Nat), k ≤ g.ns.length ∧ i = .int .i64 k ∧ RowKit.Hid (Bld w1.heap.size w1.heap.size (Lib.strCells (nsT g.ns k)) wr) ∧ RowKit.Hid (Below (w.heap.size + 1) W wr) ∧ w1.heap.size + 1 ≤ wr.heap.size) (fun i _ => g.ns.length - (intOf i).toNat)
    case atStart => exact ⟨0, Nat.zero_le _, rfl, HB0, HA2, hs2⟩
    case round =>
      clear hz a0 a1 HA2 HB0 hs2
      obtain ⟨k, hk, rfl, HBK, HA, hs2⟩ := hrel
      obtain ⟨hz, a0, a1⟩ := HK.out _ HA.out
      by_cases hlt : k < g.ns.length
      · obtain ⟨b0, o0, rfl, hb0, c0, c1⟩ := (H1.out.below ((HV.out.mono hB).trans (HA.out.mono (by omega)))).nd hlt
        have hx := HP.out.2.2.1 _ (List.getElem_mem hlt)
        have HN := Lib.hid (show nsT g.ns (k + 1) = nsT g.ns k ++ ((⟨#[40]⟩ : ByteArray) ++ propT g.ns[k].l g.ns[k].n ++ (⟨#[41]⟩ : ByteArray)) by
          show nsT g.ns k ++ ndT (g.ns.getD k ⟨⟨#[]⟩, 0⟩) = _
          rw [getD_nd _ hlt]; rfl)
        have hTs := nsT_size HP.out.2.2.1 k hk
        obtain ⟨x, ex⟩ : ∃ x, x = g.ns[k] := ⟨_, rfl⟩
        rw [← ex] at c0 c1 hx HN
        clear ex
        obtain ⟨T, eT⟩ : ∃ T, T = nsT g.ns k := ⟨_, rfl⟩
        rw [← eT] at HBK HN hTs
        clear eT
        have hq : w.heap.size < wr.heap.size := by omega
        go_wp2_with fail
        have HA3 := Lib.hid (HA.out.alloc hz (.cells #[.string x.l, .int .i64 x.n] 40))
        have HBa := Lib.hid (HBK.out.below ((Below.refl _ _).alloc (Nat.le_refl _) (.cells #[.string x.l, .int .i64 x.n] 40)))
        with_reducible refine (formatProps_any x.l x.n _ hx.1 hx.2.1 hx.2.2 (HVA.out _ HA3.out)).mono ?_
        rintro e w3 ⟨rfl, hb3⟩
        have hs3 : wr.heap.size ≤ w3.heap.size := by have := hb3.size; simp at this; omega
        have HA4 := Lib.hid (HA3.out.trans (hb3.mono (by simp; omega)))
        have HBb := Lib.hid (HBa.out.below hb3)
        clear hb3 HA3 HBa
        have hTP := propT_size hx.1 hx.2.1 hx.2.2
        obtain ⟨TP, eTP⟩ : ∃ T, T = propT x.l x.n := ⟨_, rfl⟩
        rw [← eTP] at hTP HN ⊢
        clear eTP
        have n1 : (9223372036854775807 < 1 + TP.size) = False := eq_false (by omega)
        have n2 : (9223372036854775807 < 1 + TP.size + 1) = False := eq_false (by omega)
        go_wp2_with fail
        refine (writeString_any w1.heap.size w1.heap.size _ _ _ HBb.out (by rw [Lib.strCells_length]; simp only [ByteArray.size_append]; have : (⟨#[40]⟩ : ByteArray).size = 1 := rfl; have : (⟨#[41]⟩ : ByteArray).size = 1 := rfl; omega) (by omega)).mono ?_
        rintro e w5 ⟨⟨kk, rfl⟩, hbl, hb5⟩
        have hs5 := hb5.size
        have HA5 := Lib.hid (HA4.out.trans (hb5.mono (by omega)))
        have HBc := Lib.hid (show Bld w1.heap.size w1.heap.size (Lib.strCells (nsT g.ns (k + 1))) w5 by rw [HN.out, strCells_add]; exact hbl)
        clear hb5 hbl
        go_wp2_with fail
        go_roundw
        case rel => exact ⟨k + 1, by omega, by go_num, HBc, HA5, by omega⟩
        case measure => simp [intOf]; omega
      · obtain rfl : k = g.ns.length := by omega
        have hN := nsT_size HP.out.2.2.1 _ hk
        obtain ⟨T0, eT0⟩ : ∃ T, T = nsT g.ns g.ns.length := ⟨_, rfl⟩
        rw [← eT0] at HBK HT hN
        clear eT0
        go_wp2_with fail
        go_loopw [31] (fun i wv => ∃ (k : Nat), k ≤ g.es.length ∧ i = .int .i64 k ∧ RowKit.Hid (Bld w1.heap.size w1.heap.size (Lib.strCells (esT T0 g.es k)) wv) ∧ RowKit.Hid (Below (w.heap.size + 1) W wv) ∧ w1.heap.size + 1 ≤ wv.heap.size) (fun i _ => g.es.length - (intOf i).toNat)
        case atStart => exact ⟨0, Nat.zero_le _, rfl, HBK, HA, hs2⟩
        case round =>
          clear hz a0 a1 HA HBK hs2
          obtain ⟨k, hk2, rfl, HBK, HA, hs2⟩ := hrel
          obtain ⟨hz, a0, a1⟩ := HK.out _ HA.out
          by_cases hlt : k < g.es.length
          · obtain ⟨b0, o0, rfl, hb0, c0, c1, c2, c3⟩ := (H2.out.below ((HV.out.mono hB).trans (HA.out.mono (by omega)))).ed hlt
            have hx := HP.out.2.2.2 _ (List.getElem_mem hlt)
            have HN := Lib.hid (show esT T0 g.es (k + 1) = esT T0 g.es k ++ ((⟨#[91]⟩ : ByteArray) ++ (dec g.es[k].f ++ (⟨#[62]⟩ : ByteArray) ++ dec g.es[k].t) ++ (⟨#[32]⟩ : ByteArray) ++ propT g.es[k].l g.es[k].n ++ (⟨#[93]⟩ : ByteArray)) by
              show esT T0 g.es k ++ edT (g.es.getD k ⟨0, 0, ⟨#[]⟩, 0⟩) = _
              rw [getD_ed _ hlt]; rfl)
            have hTs := esT_size (T0 := T0) HP.out.2.2.2 k hk2
            obtain ⟨x, ex⟩ : ∃ x, x = g.es[k] := ⟨_, rfl⟩
            rw [← ex] at c0 c1 c2 c3 hx HN
            clear ex
            obtain ⟨T, eT⟩ : ∃ T, T = esT T0 g.es k := ⟨_, rfl⟩
            rw [← eT] at HBK HN hTs
            clear eT
            obtain ⟨hxf, hxt, hxl, hxn⟩ := hx
            obtain ⟨W7, eW7⟩ : ∃ u, u = wr.alloc (.cells #[.int .i64 x.f, .int .i64 x.t, .string x.l, .int .i64 x.n] 43) := ⟨_, rfl⟩
            have hs7 : W7.heap.size = wr.heap.size + 1 := by rw [eW7]; simp
            have HC7 := Lib.hid (show ∀ wk, Below W7.heap.size W7 wk → wk.cell? ⟨wr.heap.size, 0, none⟩ = some (.int .i64 x.f) ∧ wk.cell? ⟨wr.heap.size, 1, none⟩ = some (.int .i64 x.t) ∧ wk.cell? ⟨wr.heap.size, 2, none⟩ = some (.string x.l) ∧ wk.cell? ⟨wr.heap.size, 3, none⟩ = some (.int .i64 x.n) from
              fun wk hk => by
                rw [eW7] at hk
                exact ⟨keepc hk (by simp) (by simp [go_sem]), keepc hk (by simp) (by simp [go_sem]), keepc hk (by simp) (by simp [go_sem]), keepc hk (by simp) (by simp [go_sem])⟩)
            have HA3 := Lib.hid (show Below (w.heap.size + 1) W W7 by rw [eW7]; exact HA.out.alloc hz _)
            have HBa := Lib.hid (show Bld w1.heap.size w1.heap.size (Lib.strCells T) W7 by rw [eW7]; exact HBK.out.below ((Below.refl _ _).alloc (Nat.le_refl _) _))
            have HL7 := Lib.hid (show w.heap.size + 1 ≤ W7.heap.size by omega)
            have HS7 := Lib.hid hs7
            have HW7 := Lib.hid eW7
            clear eW7 hs7
            have hq : w.heap.size < wr.heap.size := by omega
            obtain ⟨TE, eTE⟩ : ∃ t, t = dec x.f := ⟨_, rfl⟩
            obtain ⟨TN, eTN⟩ : ∃ t, t = dec x.t := ⟨_, rfl⟩
            have hTE : TE.size ≤ 2 := by rw [eTE]; exact dec_size hxf.1 hxf.2
            have hTN : TN.size ≤ 2 := by rw [eTN]; exact dec_size hxt.1 hxt.2
            rw [← eTE, ← eTN] at HN
            have CE := Lib.hid (fun (E : World) (hE : Below W7.heap.size W7 E) => show Calls Tryd.prog 19 #[.int .i64 x.f] E (fun en w' => en = .returned (.string TE) ∧ Below W7.heap.size W7 w') from
              (itoaI_any x.f E hxf.1 hxf.2 (HVA.out E (HA3.out.trans (hE.mono HL7.out)))).mono fun en w' ⟨he, hb⟩ => ⟨by rw [he, eTE], hE.trans (hb.mono hE.size)⟩)
            have CN := Lib.hid (fun (E : World) (hE : Below W7.heap.size W7 E) => show Calls Tryd.prog 19 #[.int .i64 x.t] E (fun en w' => en = .returned (.string TN) ∧ Below W7.heap.size W7 w') from
              (itoaI_any x.t E hxt.1 hxt.2 (HVA.out E (HA3.out.trans (hE.mono HL7.out)))).mono fun en w' ⟨he, hb⟩ => ⟨by rw [he, eTN], hE.trans (hb.mono hE.size)⟩)
            clear eTE eTN
            have n1 : (9223372036854775807 < TE.size + 1) = False := eq_false (by omega)
            have n2 : (9223372036854775807 < TE.size + 1 + TN.size) = False := eq_false (by omega)
            go_upto_region 12 with fail
            rw [← HW7.out]
            have rr0 := Below.refl W7.heap.size W7
            obtain ⟨d0, d1, d2, d3⟩ := HC7.out _ rr0
            clear c0 c1 c2 c3 a0 a1
            go_cut [8] (fun s wx => s = .string (TE ++ (⟨#[62]⟩ : ByteArray) ++ TN) ∧ RowKit.Hid (Below W7.heap.size W7 wx))
            case first =>
              go_region_held3 (fun w' => w'.cell? ⟨wr.heap.size, 0, none⟩ = some (.int .i64 x.f) ∧ w'.cell? ⟨wr.heap.size, 1, none⟩ = some (.int .i64 x.t))
                (exact (fun hk => ⟨(HC7.out _ hk).1, (HC7.out _ hk).2.1⟩) (show Below W7.heap.size W7 _ by ((repeat (first | with_reducible assumption | with_reducible exact Below.refl _ _ | refine Below.setCell ?_ (by (first | omega | (simp; omega) | (simp; done) | fail "sml")) _ | refine Below.drew ?_ | refine Below.alloc ?_ (by (first | omega | (simp; omega) | (simp; done) | fail "sml")) _)); first | done | fail "chs")))
                (first
                  | (go_at_call 19; with_reducible refine (CE.out _ (by ((repeat (first | with_reducible assumption | with_reducible exact Below.refl _ _ | refine Below.setCell ?_ (by (first | omega | (simp; omega) | (simp; done) | fail "sml")) _ | refine Below.drew ?_ | refine Below.alloc ?_ (by (first | omega | (simp; omega) | (simp; done) | fail "sml")) _)); first | done | fail "chs"))).mono ?_; rintro en wa ⟨rfl, hka⟩)
                  | (go_at_call 19; with_reducible refine (CN.out _ (by ((repeat (first | with_reducible assumption | with_reducible exact Below.refl _ _ | refine Below.setCell ?_ (by (first | omega | (simp; omega) | (simp; done) | fail "sml")) _ | refine Below.drew ?_ | refine Below.alloc ?_ (by (first | omega | (simp; omega) | (simp; done) | fail "sml")) _)); first | done | fail "chs"))).mono ?_; rintro en wb ⟨rfl, hkb⟩)
                  | fail "no arm")
              all_goals (go_wp2_with fail; go_meet)
              all_goals exact ⟨rfl, Lib.hid (show Below W7.heap.size W7 _ by ((repeat (first | with_reducible assumption | with_reducible exact Below.refl _ _ | refine Below.setCell ?_ (by (first | omega | (simp; omega) | (simp; done) | fail "sml")) _ | refine Below.drew ?_ | refine Below.alloc ?_ (by (first | omega | (simp; omega) | (simp; done) | fail "sml")) _)); first | done | fail "chs"))⟩
            case rest =>
            obtain ⟨rfl, HX7⟩ := hcut
            clear rr0 d0 d1 d2 d3 n1 n2 CE CN
            obtain ⟨d0, d1, d2, d3⟩ := HC7.out _ HX7.out
            have hsc := HX7.out.size
            have hs7 := HS7.out
            have HA8 := Lib.hid (HA3.out.trans (HX7.out.mono HL7.out))
            have HBb := Lib.hid (HBa.out.below HX7.out)
            clear d0 d1 HBa HX7
            go_wp2_with fail
            with_reducible refine (formatProps_any x.l x.n _ hxl hxn.1 hxn.2 (HVA.out _ HA8.out)).mono ?_
            rintro e w3 ⟨rfl, hb3⟩
            have hs3 := hb3.size
            have HA9 := Lib.hid (HA8.out.trans (hb3.mono (by omega)))
            have HBc := Lib.hid (HBb.out.below hb3)
            clear hb3 d2 d3
            have hTP := propT_size hxl hxn.1 hxn.2
            obtain ⟨TP, eTP⟩ : ∃ T, T = propT x.l x.n := ⟨_, rfl⟩
            rw [← eTP] at hTP HN ⊢
            clear eTP
            have n1 : (9223372036854775807 < 1 + (TE.size + 1 + TN.size)) = False := eq_false (by omega)
            have n2 : (9223372036854775807 < 1 + (TE.size + 1 + TN.size) + 1) = False := eq_false (by omega)
            have n3 : (9223372036854775807 < 1 + (TE.size + 1 + TN.size) + 1 + TP.size) = False := eq_false (by omega)
            have n4 : (9223372036854775807 < 1 + (TE.size + 1 + TN.size) + 1 + TP.size + 1) = False := eq_false (by omega)
            go_wp2_with fail
            refine (writeString_any w1.heap.size w1.heap.size _ _ _ HBc.out (by rw [Lib.strCells_length]; simp only [ByteArray.size_append]; have : (⟨#[91]⟩ : ByteArray).size = 1 := rfl; have : (⟨#[62]⟩ : ByteArray).size = 1 := rfl; have : (⟨#[32]⟩ : ByteArray).size = 1 := rfl; have : (⟨#[93]⟩ : ByteArray).size = 1 := rfl; omega) (by omega)).mono ?_
            rintro e w5 ⟨⟨kk, rfl⟩, hbl, hb5⟩
            have hs5 := hb5.size
            have HA5 := Lib.hid (HA9.out.trans (hb5.mono (by omega)))
            have HBd := Lib.hid (show Bld w1.heap.size w1.heap.size (Lib.strCells (esT T0 g.es (k + 1))) w5 by rw [HN.out, strCells_add]; exact hbl)
            clear hb5 hbl
            go_wp2_with fail
            go_roundw
            case rel => exact ⟨k + 1, by omega, by go_num, HBd, HA5, by omega⟩
            case measure => simp [intOf]; omega
          · obtain rfl : k = g.es.length := by omega
            go_wp2_with fail
            refine (bldString_any w1.heap.size w1.heap.size _ _ HBK.out (by omega)).mono ?_
            rintro e w5 ⟨rfl, hb5⟩
            have HA5 := Lib.hid (HA.out.trans (hb5.mono (by omega)))
            clear hb5
            go_wp2_with fail
            go_ret
            exact ⟨by rw [HT.out]; rfl, HV.out.trans (HA5.out.mono (by omega))⟩
end Go.Proofs.YtafddoljphmgkaaDoor
