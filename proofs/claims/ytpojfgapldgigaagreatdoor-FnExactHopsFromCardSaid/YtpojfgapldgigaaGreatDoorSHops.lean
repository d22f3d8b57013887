/- Hops from a node: the model's. -/
import Derived.Test.YtpojfgapldgigaaGreatDoorHops
namespace Go.Proofs.YtpojfgapldgigaaGreatDoor
open Go.RowKit

theorem foll_1 {node d : Int} {x : Ed} (h1 : (d != 2) = true) (h2 : (x.f == node) = true) : follB node d x = true ∧ follT node d x = x.t := by unfold follB follT; rw [h1, h2]; exact ⟨rfl, rfl⟩
theorem foll_2 {node d : Int} {x : Ed} (h : (d != 2 && x.f == node) = false) (h3 : (d != 1) = true) (h4 : (x.t == node) = true) : follB node d x = true ∧ follT node d x = x.f := by unfold follB follT; rw [h, h3, h4]; exact ⟨rfl, rfl⟩
theorem foll_0 {node d : Int} {x : Ed} (h : (d != 2 && x.f == node) = false) (h' : (d != 1 && x.t == node) = false) : follB node d x = false := by unfold follB; rw [h, h']; rfl
theorem elemV_parts {e : El} (h : elemV e = true) : partV 1 e.l = true ∧ partV 2 e.c = true := by
  unfold elemV at h
  simp only [Bool.and_eq_true] at h
  exact ⟨h.2.2.1, h.2.2.2⟩
set_option maxRecDepth 100000 in
set_option maxHeartbeats 8000000 in
theorem l3Hops_any (g : Gr) (e : El) (v u : Value) (node : Int) (B : Nat) (w : World) (hg : g.At B w v) (hu : e.At B w u) (hB : B ≤ w.heap.size) (hok : g.Ok) (hs : e.Sm) (hgv : gv g = true) (hev : elemV e = true) :
    Calls Tryz.prog 22 #[v, .int .i64 node, u] w fun en w' => ∃ v' F, en = .returned v' ∧ OwnSl 2 Hp.cells w' v' (hopsN node e g.es g.es.length) F ∧ (∀ x ∈ F, w.heap.size ≤ x) ∧ Below w.heap.size w w' := by
  have HGV := Lib.hid hgv
  have h14 := gvh_len hgv
  have HPP := Lib.hid (elemV_parts hev)
  clear hgv hev
  have HG := Lib.hid hg
  have HU := Lib.hid hu
  have HS := Lib.hid hs
  have HOK := Lib.hid hok
  obtain ⟨va, vb, rfl, hns, hes⟩ := hg
  obtain ⟨pa, ca, rfl⟩ := hns.form
  obtain ⟨pb, cb, rfl⟩ := hes.form
  have hm2 := hes.max
  unfold maxLen at hm2
  have HES := Lib.hid hes
  obtain ⟨p, cap, p', cap', rfl, _, _⟩ := hu.form
  clear hu hs hok hns hes
  obtain ⟨i0, hi, hzz0, hzz1, hzz2⟩ := info_parts infoHop
  obtain ⟨W0, eW⟩ : ∃ W0, W0 = (w.alloc (.cells #[.slice pa g.ns.length ca, .slice pb g.es.length cb] 38)).alloc (.cells #[.bool e.n, .string e.v, .int .i64 e.l.op, .string e.l.a, .slice p e.l.ks.list.length cap, .int .i64 e.c.op, .string e.c.a, .slice p' e.c.ks.list.length cap', .int .i64 e.d] 44) := ⟨_, rfl⟩
  have HV := Lib.hid (show Below w.heap.size w W0 by rw [eW]; exact ((Below.refl w.heap.size w).alloc (by simp) _).alloc (by simp) _)
  have hs0 : w.heap.size + 2 ≤ W0.heap.size := by rw [eW]; simp
  have HK := Lib.hid (show ∀ wk, Below (w.heap.size + 2) W0 wk → w.heap.size + 2 ≤ wk.heap.size ∧ wk.cell? ⟨w.heap.size, 0, none⟩ = some (.slice pa g.ns.length ca) ∧ wk.cell? ⟨w.heap.size, 1, none⟩ = some (.slice pb g.es.length cb) ∧ wk.cell? ⟨w.heap.size + 1, 0, none⟩ = some (.bool e.n) ∧ wk.cell? ⟨w.heap.size + 1, 1, none⟩ = some (.string e.v) ∧ wk.cell? ⟨w.heap.size + 1, 2, none⟩ = some (.int .i64 e.l.op) ∧ wk.cell? ⟨w.heap.size + 1, 3, none⟩ = some (.string e.l.a) ∧ wk.cell? ⟨w.heap.size + 1, 4, none⟩ = some (.slice p e.l.ks.list.length cap) ∧ wk.cell? ⟨w.heap.size + 1, 5, none⟩ = some (.int .i64 e.c.op) ∧ wk.cell? ⟨w.heap.size + 1, 6, none⟩ = some (.string e.c.a) ∧ wk.cell? ⟨w.heap.size + 1, 7, none⟩ = some (.slice p' e.c.ks.list.length cap') ∧ wk.cell? ⟨w.heap.size + 1, 8, none⟩ = some (.int .i64 e.d) from
    fun wk hk => by rw [eW] at hk; exact ⟨by have := hk.size; simp at this; omega, keepc hk (by omega) (by simp [go_sem]), keepc hk (by omega) (by simp [go_sem]), keepc hk (by omega) (by simp [go_sem]), keepc hk (by omega) (by simp [go_sem]), keepc hk (by omega) (by simp [go_sem]), keepc hk (by omega) (by simp [go_sem]), keepc hk (by omega) (by simp [go_sem]), keepc hk (by omega) (by simp [go_sem]), keepc hk (by omega) (by simp [go_sem]), keepc hk (by omega) (by simp [go_sem]), keepc hk (by omega) (by simp [go_sem])⟩)
  have HA := Lib.hid (Below.refl (w.heap.size + 2) W0)
  have HBK := Lib.hid (show ∀ wk, Below (w.heap.size + 2) W0 wk → Below B w wk from fun wk hk => (HV.out.trans (hk.mono (by omega))).mono hB)
  have HEA := Lib.hid (show ∀ wk, Below (w.heap.size + 2) W0 wk → e.At B wk (.agg #[.bool e.n, .string e.v, .int .i64 e.l.op, .string e.l.a, .slice p e.l.ks.list.length cap, .int .i64 e.c.op, .string e.c.a, .slice p' e.c.ks.list.length cap', .int .i64 e.d]) from fun wk hk => HU.out.below (HBK.out wk hk) (Nat.le_refl _))
  have HGA := Lib.hid (show ∀ wk, Below (w.heap.size + 2) W0 wk → g.At B wk (.agg #[.slice pa g.ns.length ca, .slice pb g.es.length cb]) from fun wk hk => HG.out.below (HBK.out wk hk))
  have EW := Lib.hid eW
  clear eW
  have hz0 : w.heap.size + 2 ≤ W0.heap.size := hs0
  have hmade := Lib.hid (World.ownsRow_made (e := 67) (size := 2) (base := w.heap.size + 2) W0 #[] 0 hz0 (Nat.zero_le _) rfl)
  go_enter Tryz.func22, Tryz.ntmps22
  go_wp2_with fail
  try rw [← EW.out]
  go_loopw [7, 8] (fun fnd i wr => ∃ k : Nat, k ≤ g.es.length ∧ i = .int .i64 k ∧ wr.ownsRow (w.heap.size + 2) 67 2 fnd (hopsN node e g.es k).length (flt Hp.cells (hopsN node e g.es k)) ∧ Below (w.heap.size + 2) W0 wr) (fun _ i _ => g.es.length - (intOf i).toNat)
  case atStart => exact ⟨0, Nat.zero_le _, rfl, (by have h := hmade.out; rw [EW.out] at h ⊢; simpa [hopsN, flt] using h), HA.out.alloc hz0 _⟩
  case round =>
    obtain ⟨k, hk, rfl, hown, hbw⟩ := hrel
    have HA := Lib.hid hbw
    have HO := Lib.hid hown
    have hpl := hopsN_le node e g.es k
    clear hbw hown
    obtain ⟨hz, a0, a1, c0, c1, c2, c3, c4, c5, c6, c7, c8⟩ := HK.out _ HA.out
    by_cases hlt : k < g.es.length
    · obtain ⟨b, off, rfl, hbb, x0, x1, x2, x3⟩ := (HES.out.below (HBK.out _ HA.out)).ed hlt
      have hyes := Lib.hid (fun h => hopsN_yes (node := node) (e := e) hlt h)
      have hno := Lib.hid (fun h => hopsN_no (node := node) (e := e) hlt h)
      have HP := Lib.hid (pv_parts (gv_ed HGV.out hlt))
      obtain ⟨x, ex⟩ : ∃ x, x = g.es[k] := ⟨_, rfl⟩
      rw [← ex] at x0 x1 x2 x3 hyes hno HP
      clear ex
      have hq1 : w.heap.size < wr.heap.size := by omega
      have hq2 : w.heap.size + 1 < wr.heap.size := by omega
      go_wp2_with fail
      refine (l3Fits_any e _ x.l x.n B _ ((HEA.out _ HA.out).below ((Below.refl _ _).alloc (Nat.le_trans hB (by omega)) _) (Nat.le_refl _)) (by simp; omega) HS.out HPP.out.1 HPP.out.2 HP.out.1 HP.out.2.1).mono ?_
      rintro en w4 ⟨rfl, hb4⟩
      have s4 : wr.heap.size < w4.heap.size := by have := hb4.size; simp at this; omega
      have y0 := new_cell hb4 (j := 0) rfl
      have y1 := new_cell hb4 (j := 1) rfl
      have HO4 := Lib.hid (hop_kept (HO.out.alloc _) hb4)
      have HA := Lib.hid (HA.out.trans ((below_past hb4).mono (by omega)))
      clear hb4 x0 x1 x2 x3 hq1 hq2
      clear hz a0 a1 c0 c1 c2 c3 c4 c5 c6 c7 c8
      obtain ⟨hz, a0, a1, c0, c1, c2, c3, c4, c5, c6, c7, c8⟩ := HK.out _ HA.out
      have hq1 : w.heap.size < w4.heap.size := by omega
      have hq2 : w.heap.size + 1 < w4.heap.size := by omega
      cases hp : elemF e x.l x.n with
      | false =>
        have HY := Lib.hid (hno.out (show hopB node e x = false by unfold hopB; rw [hp]; simp))
        clear hyes hno hp
        go_wp2_with fail
        go_roundw
        case rel => exact ⟨k + 1, by omega, by go_num, by rw [HY.out]; exact HO4.out, HA.out⟩
        case measure => simp [intOf]; omega
      | true =>
        cases h1 : (e.d != 2) with
        | true =>
          cases h2 : (x.f == node) with
          | true =>
            have HY := Lib.hid (hyes.out (show hopB node e x = true by unfold hopB; rw [(foll_1 h1 h2).1, hp]; rfl))
            have HT := Lib.hid (foll_1 h1 h2).2
            clear hyes hno
            go_wp2_with (at_builtin; refine wpList_append_own _ rfl _ _ 33 rfl (w.heap.size + 2) 67 i0 (.agg #[.int .i64 0, .int .i64 0]) 2 16 Tryz.underlying33 hi hzz0 hzz1 hzz2 rfl (by decide) _ _ _ rfl (HO4.out.alloc _) ⟨w4.heap.size, 0, none⟩ 1 1 [.int .i64 k, .int .i64 x.t] rfl rfl ?c1 ?c2 ?c3 ?c4 ?c5 ?_)
            case c1 =>
              intro j u hj
              match j, hj with
              | 0, hj => simp at hj; subst hj; simp [Addr.add]
              | 1, hj => simp at hj; subst hj; simp [Addr.add]
            case c2 => intro u hu; simp at hu; rcases hu with rfl | rfl <;> rfl
            case c3 => unfold maxLen; omega
            case c4 => omega
            case c5 => simp; omega
            intro v' w5 hown5 hgrow _
            have HA5 := Lib.hid ((HA.out.alloc (by omega) (.cells #[.int .i64 (k : Int), .int .i64 x.t] 67)).grown hgrow (by simp; omega) (fun q hq => (HO4.out.lt q hq).1))
            have HO5 := Lib.hid (show w5.ownsRow (w.heap.size + 2) 67 2 v' (hopsN node e g.es (k + 1)).length (flt Hp.cells (hopsN node e g.es (k + 1))) by rw [HY.out, hop_flat, HT.out]; simpa using hown5)
            clear hown5 hgrow
            go_wp2_with fail
            go_roundw
            case rel => exact ⟨k + 1, by omega, by go_num, HO5.out, HA5.out⟩
            case measure => simp [intOf]; omega
          | false =>
            cases h3 : (e.d != 1) with
            | true =>
              cases h4 : (x.t == node) with
              | true =>
                have HY := Lib.hid (hyes.out (show hopB node e x = true by unfold hopB; rw [(foll_2 (by rw [h1, h2]; rfl) h3 h4).1, hp]; rfl))
                have HT := Lib.hid (foll_2 (by rw [h1, h2]; rfl) h3 h4).2
                clear hyes hno
                go_wp2_with (at_builtin; refine wpList_append_own _ rfl _ _ 33 rfl (w.heap.size + 2) 67 i0 (.agg #[.int .i64 0, .int .i64 0]) 2 16 Tryz.underlying33 hi hzz0 hzz1 hzz2 rfl (by decide) _ _ _ rfl (HO4.out.alloc _) ⟨w4.heap.size, 0, none⟩ 1 1 [.int .i64 k, .int .i64 x.f] rfl rfl ?c1 ?c2 ?c3 ?c4 ?c5 ?_)
                case c1 =>
                  intro j u hj
                  match j, hj with
                  | 0, hj => simp at hj; subst hj; simp [Addr.add]
                  | 1, hj => simp at hj; subst hj; simp [Addr.add]
                case c2 => intro u hu; simp at hu; rcases hu with rfl | rfl <;> rfl
                case c3 => unfold maxLen; omega
                case c4 => omega
                case c5 => simp; omega
                intro v' w5 hown5 hgrow _
                have HA5 := Lib.hid ((HA.out.alloc (by omega) (.cells #[.int .i64 (k : Int), .int .i64 x.f] 67)).grown hgrow (by simp; omega) (fun q hq => (HO4.out.lt q hq).1))
                have HO5 := Lib.hid (show w5.ownsRow (w.heap.size + 2) 67 2 v' (hopsN node e g.es (k + 1)).length (flt Hp.cells (hopsN node e g.es (k + 1))) by rw [HY.out, hop_flat, HT.out]; simpa using hown5)
                clear hown5 hgrow
                go_wp2_with fail
                go_roundw
                case rel => exact ⟨k + 1, by omega, by go_num, HO5.out, HA5.out⟩
                case measure => simp [intOf]; omega
              | false =>
                have HY := Lib.hid (hno.out (show hopB node e x = false by unfold hopB; rw [foll_0 (by rw [h1, h2]; rfl) (by rw [h3, h4]; rfl)]; rfl))
                clear hyes hno
                go_wp2_with fail
                go_roundw
                case rel => exact ⟨k + 1, by omega, by go_num, by rw [HY.out]; exact HO4.out, HA.out⟩
                case measure => simp [intOf]; omega
            | false =>
              have HY := Lib.hid (hno.out (show hopB node e x = false by unfold hopB; rw [foll_0 (by rw [h1, h2]; rfl) (by rw [h3]; rfl)]; rfl))
              clear hyes hno
              go_wp2_with fail
              go_roundw
              case rel => exact ⟨k + 1, by omega, by go_num, by rw [HY.out]; exact HO4.out, HA.out⟩
              case measure => simp [intOf]; omega
        | false =>
          cases h3 : (e.d != 1) with
          | true =>
            cases h4 : (x.t == node) with
            | true =>
              have HY := Lib.hid (hyes.out (show hopB node e x = true by unfold hopB; rw [(foll_2 (by rw [h1]; rfl) h3 h4).1, hp]; rfl))
              have HT := Lib.hid (foll_2 (by rw [h1]; rfl) h3 h4).2
              clear hyes hno
              go_wp2_with (at_builtin; refine wpList_append_own _ rfl _ _ 33 rfl (w.heap.size + 2) 67 i0 (.agg #[.int .i64 0, .int .i64 0]) 2 16 Tryz.underlying33 hi hzz0 hzz1 hzz2 rfl (by decide) _ _ _ rfl (HO4.out.alloc _) ⟨w4.heap.size, 0, none⟩ 1 1 [.int .i64 k, .int .i64 x.f] rfl rfl ?c1 ?c2 ?c3 ?c4 ?c5 ?_)
              case c1 =>
                intro j u hj
                match j, hj with
                | 0, hj => simp at hj; subst hj; simp [Addr.add]
                | 1, hj => simp at hj; subst hj; simp [Addr.add]
              case c2 => intro u hu; simp at hu; rcases hu with rfl | rfl <;> rfl
              case c3 => unfold maxLen; omega
              case c4 => omega
              case c5 => simp; omega
              intro v' w5 hown5 hgrow _
              have HA5 := Lib.hid ((HA.out.alloc (by omega) (.cells #[.int .i64 (k : Int), .int .i64 x.f] 67)).grown hgrow (by simp; omega) (fun q hq => (HO4.out.lt q hq).1))
              have HO5 := Lib.hid (show w5.ownsRow (w.heap.size + 2) 67 2 v' (hopsN node e g.es (k + 1)).length (flt Hp.cells (hopsN node e g.es (k + 1))) by rw [HY.out, hop_flat, HT.out]; simpa using hown5)
              clear hown5 hgrow
              go_wp2_with fail
              go_roundw
              case rel => exact ⟨k + 1, by omega, by go_num, HO5.out, HA5.out⟩
              case measure => simp [intOf]; omega
            | false =>
              have HY := Lib.hid (hno.out (show hopB node e x = false by unfold hopB; rw [foll_0 (by rw [h1]; rfl) (by rw [h3, h4]; rfl)]; rfl))
              clear hyes hno
              go_wp2_with fail
              go_roundw
              case rel => exact ⟨k + 1, by omega, by go_num, by rw [HY.out]; exact HO4.out, HA.out⟩
              case measure => simp [intOf]; omega
          | false =>
            have HY := Lib.hid (hno.out (show hopB node e x = false by unfold hopB; rw [foll_0 (by rw [h1]; rfl) (by rw [h3]; rfl)]; rfl))
            clear hyes hno
            go_wp2_with fail
            go_roundw
            case rel => exact ⟨k + 1, by omega, by go_num, by rw [HY.out]; exact HO4.out, HA.out⟩
            case measure => simp [intOf]; omega
    · obtain rfl : k = g.es.length := by omega
      go_wp2_with fail
      go_ret
      obtain ⟨F, h1, h2⟩ := hop_own HO.out
      exact ⟨_, F, rfl, h1, fun x hx => by have := h2 x hx; omega, HV.out.trans (HA.out.mono (by omega))⟩
theorem hnil (wk : World) (p : Option Addr) : OwnSl 2 Hp.cells wk (.slice p 0 0) [] [] := ⟨p, 0, 0, rfl, rfl, Nat.le_refl _, Nat.zero_le _, .inl ⟨rfl, rfl⟩⟩
set_option maxRecDepth 100000 in
set_option maxHeartbeats 8000000 in
theorem specHopsFrom_any (g : Gr) (e : El) (v u : Value) (node : Int) (B : Nat) (w : World) (hg : g.At B w v) (hu : e.At B w u) (hB : B ≤ w.heap.size) (hok : g.Ok) (hs : e.Sm) :
    Calls Tryz.prog 6 #[v, .int .i64 node, u] w fun en w' => ∃ v' F, en = .returned v' ∧ OwnSl 2 Hp.cells w' v' (hopsR g node e) F ∧ (∀ x ∈ F, w.heap.size ≤ x) ∧ Below w.heap.size w w' := by
  have HG := Lib.hid hg
  have HU := Lib.hid hu
  have HS := Lib.hid hs
  have HOK := Lib.hid hok
  obtain ⟨va, vb, rfl, hns, hes⟩ := hg
  obtain ⟨pa, ca, rfl⟩ := hns.form
  obtain ⟨pb, cb, rfl⟩ := hes.form
  have hm2 := hes.max
  unfold maxLen at hm2
  have HES := Lib.hid hes
  obtain ⟨p, cap, p', cap', rfl, _, _⟩ := hu.form
  clear hu hs hok hns hes
  obtain ⟨i0, hi, hzz0, hzz1, hzz2⟩ := info_parts infoHop
  obtain ⟨W0, eW⟩ : ∃ W0, W0 = (w.alloc (.cells #[.slice pa g.ns.length ca, .slice pb g.es.length cb] 38)).alloc (.cells #[.bool e.n, .string e.v, .int .i64 e.l.op, .string e.l.a, .slice p e.l.ks.list.length cap, .int .i64 e.c.op, .string e.c.a, .slice p' e.c.ks.list.length cap', .int .i64 e.d] 44) := ⟨_, rfl⟩
  have HV := Lib.hid (show Below w.heap.size w W0 by rw [eW]; exact ((Below.refl w.heap.size w).alloc (by simp) _).alloc (by simp) _)
  have hs0 : w.heap.size + 2 ≤ W0.heap.size := by rw [eW]; simp
  have HK := Lib.hid (show ∀ wk, Below (w.heap.size + 2) W0 wk → w.heap.size + 2 ≤ wk.heap.size ∧ wk.cell? ⟨w.heap.size, 0, none⟩ = some (.slice pa g.ns.length ca) ∧ wk.cell? ⟨w.heap.size, 1, none⟩ = some (.slice pb g.es.length cb) ∧ wk.cell? ⟨w.heap.size + 1, 0, none⟩ = some (.bool e.n) ∧ wk.cell? ⟨w.heap.size + 1, 1, none⟩ = some (.string e.v) ∧ wk.cell? ⟨w.heap.size + 1, 2, none⟩ = some (.int .i64 e.l.op) ∧ wk.cell? ⟨w.heap.size + 1, 3, none⟩ = some (.string e.l.a) ∧ wk.cell? ⟨w.heap.size + 1, 4, none⟩ = some (.slice p e.l.ks.list.length cap) ∧ wk.cell? ⟨w.heap.size + 1, 5, none⟩ = some (.int .i64 e.c.op) ∧ wk.cell? ⟨w.heap.size + 1, 6, none⟩ = some (.string e.c.a) ∧ wk.cell? ⟨w.heap.size + 1, 7, none⟩ = some (.slice p' e.c.ks.list.length cap') ∧ wk.cell? ⟨w.heap.size + 1, 8, none⟩ = some (.int .i64 e.d) from
    fun wk hk => by rw [eW] at hk; exact ⟨by have := hk.size; simp at this; omega, keepc hk (by omega) (by simp [go_sem]), keepc hk (by omega) (by simp [go_sem]), keepc hk (by omega) (by simp [go_sem]), keepc hk (by omega) (by simp [go_sem]), keepc hk (by omega) (by simp [go_sem]), keepc hk (by omega) (by simp [go_sem]), keepc hk (by omega) (by simp [go_sem]), keepc hk (by omega) (by simp [go_sem]), keepc hk (by omega) (by simp [go_sem]), keepc hk (by omega) (by simp [go_sem]), keepc hk (by omega) (by simp [go_sem])⟩)
  have HA := Lib.hid (Below.refl (w.heap.size + 2) W0)
  have HBK := Lib.hid (show ∀ wk, Below (w.heap.size + 2) W0 wk → Below B w wk from fun wk hk => (HV.out.trans (hk.mono (by omega))).mono hB)
  have HEA := Lib.hid (show ∀ wk, Below (w.heap.size + 2) W0 wk → e.At B wk (.agg #[.bool e.n, .string e.v, .int .i64 e.l.op, .string e.l.a, .slice p e.l.ks.list.length cap, .int .i64 e.c.op, .string e.c.a, .slice p' e.c.ks.list.length cap', .int .i64 e.d]) from fun wk hk => HU.out.below (HBK.out wk hk) (Nat.le_refl _))
  have HGA := Lib.hid (show ∀ wk, Below (w.heap.size + 2) W0 wk → g.At B wk (.agg #[.slice pa g.ns.length ca, .slice pb g.es.length cb]) from fun wk hk => HG.out.below (HBK.out wk hk))
  have EW := Lib.hid eW
  clear eW
  go_enter Tryz.func6, Tryz.ntmps6
  go_wp2_with fail
  rw [← EW.out]
  refine (specGraphValid_any g _ B _ (HGA.out _ HA.out) (by omega) HOK.out).mono ?_
  rintro en w1 ⟨rfl, hb1⟩
  have HA := Lib.hid (HA.out.trans (hb1.mono (by omega)))
  clear hb1
  obtain ⟨hz, a0, a1, c0, c1, c2, c3, c4, c5, c6, c7, c8⟩ := HK.out _ HA.out
  cases hgv : gv g with
  | false =>
    have HE := Lib.hid (hopsR_no (node := node) (show (gv g && (elemV e && !e.n)) = false by rw [hgv]; rfl))
    clear hgv
    go_wp2_with fail
    go_ret
    exact ⟨_, [], rfl, by rw [HE.out]; exact hnil _ _, by simp, (HV.out.trans (HA.out.mono (by omega))).alloc (by omega) _⟩
  | true =>
  have HGV := Lib.hid hgv
  clear hgv
  go_wp2_with fail
  refine (specElemValid_any e _ B _ (HEA.out _ HA.out) (by omega) HS.out).mono ?_
  rintro en w2 ⟨rfl, hb2⟩
  have HA := Lib.hid (HA.out.trans (hb2.mono (by omega)))
  clear hb2
  clear hz a0 a1 c0 c1 c2 c3 c4 c5 c6 c7 c8
  obtain ⟨hz, a0, a1, c0, c1, c2, c3, c4, c5, c6, c7, c8⟩ := HK.out _ HA.out
  cases hev : elemV e with
  | false =>
    have HE := Lib.hid (hopsR_no (node := node) (show (gv g && (elemV e && !e.n)) = false by rw [hev]; simp))
    clear hev
    go_wp2_with fail
    go_ret
    exact ⟨_, [], rfl, by rw [HE.out]; exact hnil _ _, by simp, (HV.out.trans (HA.out.mono (by omega))).alloc (by omega) _⟩
  | true =>
  have HEV := Lib.hid hev
  cases hen : e.n with
  | true =>
    have HE := Lib.hid (hopsR_no (node := node) (show (gv g && (elemV e && !e.n)) = false by rw [hen]; simp))
    clear hev
    rw [hen] at c0
    clear hen
    go_wp2_with fail
    go_ret
    exact ⟨_, [], rfl, by rw [HE.out]; exact hnil _ _, by simp, (HV.out.trans (HA.out.mono (by omega))).alloc (by omega) _⟩
  | false =>
  have HE := Lib.hid (hopsR_yes (node := node) (show (gv g && (elemV e && !e.n)) = true by rw [HGV.out, hev, hen]; rfl))
  have HEA2 := Lib.hid (HEA.out _ HA.out)
  rw [hen] at c0
  have HEN := Lib.hid hen
  clear hev hen
  go_wp2_with fail
  refine (l3Hops_any g e _ _ node B _ (HGA.out _ HA.out) (by have h := HEA2.out; rw [HEN.out] at h; exact h) (by omega) HOK.out HS.out HGV.out HEV.out).mono ?_
  rintro en w3 ⟨v', F, rfl, ho, hf, hb3⟩
  have HO := Lib.hid ho
  have HF := Lib.hid hf
  have HA3 := Lib.hid (HA.out.trans (hb3.mono (by omega)))
  have hz3 := hb3.size
  clear ho hf hb3
  clear a0 a1 c0 c1 c2 c3 c4 c5 c6 c7 c8
  go_wp2_with fail
  go_ret
  exact ⟨_, F, rfl, by rw [HE.out]; exact HO.out, fun x hx => by have := HF.out x hx; omega, HV.out.trans (HA3.out.mono (by omega))⟩
end Go.Proofs.YtpojfgapldgigaaGreatDoor
