/- Hops from a node: impl.HopsFrom. -/
import Derived.Test.YtpojfgapldgigaaGreatDoorFitsI
import Derived.Test.YtpojfgapldgigaaGreatDoorHopX
import Derived.Test.YtpojfgapldgigaaGreatDoorOwnS
namespace Go.Proofs.YtpojfgapldgigaaGreatDoor
open Go.RowKit

/-- Where an edge leads from a node in a direction, and whether it does. -/
def follB (node d : Int) (x : Ed) : Bool := (d != 2 && x.f == node) || (d != 1 && x.t == node)
def follT (node d : Int) (x : Ed) : Int := if d != 2 && x.f == node then x.t else if d != 1 && x.t == node then x.f else 0
def hopB (node : Int) (e : El) (x : Ed) : Bool := follB node e.d x && elemF e x.l x.n
def hopsN (node : Int) (e : El) (es : List Ed) : Nat → List Hp
  | 0 => []
  | k + 1 => if (es[k]?.map (hopB node e)).getD false then hopsN node e es k ++ [⟨k, ((es[k]?.map (follT node e.d)).getD 0)⟩] else hopsN node e es k
theorem hopsN_yes {node : Int} {e : El} {es : List Ed} {k : Nat} (h : k < es.length) (hp : hopB node e es[k] = true) : hopsN node e es (k + 1) = hopsN node e es k ++ [⟨k, follT node e.d es[k]⟩] := by
  simp [hopsN, List.getElem?_eq_getElem h, hp]
theorem hopsN_no {node : Int} {e : El} {es : List Ed} {k : Nat} (h : k < es.length) (hp : hopB node e es[k] = false) : hopsN node e es (k + 1) = hopsN node e es k := by
  simp [hopsN, List.getElem?_eq_getElem h, hp]
theorem hopsN_le (node : Int) (e : El) (es : List Ed) : ∀ k, (hopsN node e es k).length ≤ k
  | 0 => Nat.le_refl _
  | k + 1 => by have := hopsN_le node e es k; unfold hopsN; split <;> simp <;> omega
def hopsR (g : Gr) (node : Int) (e : El) : List Hp := if gv g && (elemV e && !e.n) then hopsN node e g.es g.es.length else []
theorem gvh_len {g : Gr} (h : gv g = true) : g.es.length ≤ 14 := by
  unfold gv at h
  simp only [Bool.and_eq_true, decide_eq_true_eq] at h
  omega
theorem hopsR_len (g : Gr) (node : Int) (e : El) : (hopsR g node e).length ≤ 14 := by
  unfold hopsR
  split
  · rename_i h
    simp only [Bool.and_eq_true] at h
    have := gvh_len h.1; have := hopsN_le node e g.es g.es.length; omega
  · simp
theorem hopsR_no {g : Gr} {node : Int} {e : El} (h : (gv g && (elemV e && !e.n)) = false) : hopsR g node e = [] := by unfold hopsR; rw [h]; rfl
theorem hopsR_yes {g : Gr} {node : Int} {e : El} (h : (gv g && (elemV e && !e.n)) = true) : hopsR g node e = hopsN node e g.es g.es.length := by unfold hopsR; rw [h]; rfl
theorem infoHop : (Tryz.prog.info? 67).map (fun i => (i.zero, i.size, i.bytes)) = some (some (.agg #[.int .i64 0, .int .i64 0]), 2, 16) := by kernel_rfl
theorem hop_grown {w w' : World} (h : Below w.heap.size w w') : w.grownBy w' none := ⟨h.os, h.tape, h.output, h.size, fun k hk _ => h.block k hk⟩
theorem hop_kept {w w' : World} {base : Nat} {e : TypeId} {size : Nat} {v : Value} {n : Nat} {xs : List Value} (h : w.ownsRow base e size v n xs) (hb : Below w.heap.size w w') : w'.ownsRow base e size v n xs :=
  h.kept (hop_grown hb) (Classical.em _)
theorem hop_flat (xs : List Hp) (x : Hp) : flt Hp.cells (xs ++ [x]) = flt Hp.cells xs ++ [.int .i64 x.e, .int .i64 x.t] := by rw [flt_append]; simp [flt, Hp.cells]
theorem hop_own {w : World} {base : Nat} {e : TypeId} {v : Value} {xs : List Hp} (h : w.ownsRow base e 2 v xs.length (flt Hp.cells xs)) : ∃ F, OwnSl 2 Hp.cells w v xs F ∧ ∀ x ∈ F, base ≤ x := by
  obtain ⟨hl, h⟩ := h
  rcases h with ⟨rfl, h0⟩ | ⟨g, cap, cur, rfl, hb, hg, hn, hc, hs, ht⟩
  · exact ⟨[], ⟨none, 0, 0, rfl, h0.symm, Nat.le_refl _, Nat.zero_le _, .inl ⟨List.eq_nil_of_length_eq_zero h0, rfl⟩⟩, by simp⟩
  · refine ⟨[g], ⟨_, _, _, rfl, rfl, hn, hc, .inr ⟨g, 0, rfl, rfl, (Array.getElem?_eq_some_iff.1 hg).1, fun o => by simp [World.frozen?, hg], fun i hi j x hx => ?_⟩⟩, by simpa using hb⟩
    have e1 := flt_at (sz := 2) (fun _ => rfl) xs i hi j x hx
    have hj : j < 2 := (List.getElem?_eq_some_iff.1 hx).1
    have hle : i * 2 + 2 ≤ xs.length * 2 := by omega
    rw [← ht, List.getElem?_take_of_lt (by omega)] at e1
    simp only [World.cell?, hg, Nat.zero_add]
    rw [← e1]; simp
set_option maxHeartbeats 1000000 in
theorem followEdge_any (x : Ed) (node d : Int) (w : World) :
    Calls Tryz.prog 28 #[.agg #[.int .i64 x.f, .int .i64 x.t, .string x.l, .int .i64 x.n], .int .i64 node, .int .i64 d] w fun e w' => e = .returned (.tuple #[.int .i64 (follT node d x), .bool (follB node d x)]) ∧ Below w.heap.size w w' := by
  cases h1 : (d != 2) <;> cases h2 : (x.f == node) <;> cases h3 : (d != 1) <;> cases h4 : (x.t == node) <;>
  ( have HT := Lib.hid (show follT node d x = _ by unfold follT; rw [h1, h2, h3, h4])
    have HB := Lib.hid (show follB node d x = _ by unfold follB; rw [h1, h2, h3, h4])
    go_enter Tryz.func28, Tryz.ntmps28
    go_wp2_with fail
    exact bodyPost_ret (v := .tuple #[.int .i64 (follT node d x), .bool (follB node d x)]) (by rw [HT.out, HB.out]; simp [results, Tryz.results28, go_sem]) rfl ⟨rfl, (Below.refl _ _).alloc (Nat.le_refl _) _⟩)
set_option maxRecDepth 100000 in
set_option maxHeartbeats 8000000 in
theorem hopsFrom_any (g : Gr) (e : El) (v u : Value) (node : Int) (B : Nat) (w : World) (hg : g.At B w v) (hu : e.At B w u) (hB : B ≤ w.heap.size) (hok : g.Ok) (hs : e.Sm) (hvars : Vars w) :
    Calls Tryz.prog 9 #[v, .int .i64 node, u] w fun en w' => ∃ v' F, en = .returned v' ∧ OwnSl 2 Hp.cells w' v' (hopsR g node e) F ∧ (∀ x ∈ F, w.heap.size ≤ x) ∧ Below w.heap.size w w' := by
  have HVV := Lib.hid hvars
  clear hvars
  have HG := Lib.hid hg
  have HU := Lib.hid hu
  have HS := Lib.hid hs
  have HOK := Lib.hid hok
  obtain ⟨va, vb, rfl, hns, hes⟩ := hg
  obtain ⟨pa, ca, rfl⟩ := hns.form
  obtain ⟨pb, cb, rfl⟩ := hes.form
  have hm2 := hes.max
  unfold maxLen at hm2
  have HES := Lib.hid hes
  obtain ⟨p, cap, p', cap', rfl, _, _⟩ := hu.form
  clear hu hs hok hns hes
  obtain ⟨i0, hi, hzz0, hzz1, hzz2⟩ := info_parts infoHop
  obtain ⟨W0, eW⟩ : ∃ W0, W0 = (w.alloc (.cells #[.slice pa g.ns.length ca, .slice pb g.es.length cb] 38)).alloc (.cells #[.bool e.n, .string e.v, .int .i64 e.l.op, .string e.l.a, .slice p e.l.ks.list.length cap, .int .i64 e.c.op, .string e.c.a, .slice p' e.c.ks.list.length cap', .int .i64 e.d] 44) := ⟨_, rfl⟩
  have HV := Lib.hid (show Below w.heap.size w W0 by rw [eW]; exact ((Below.refl w.heap.size w).alloc (by simp) _).alloc (by simp) _)
  have hs0 : w.heap.size + 2 ≤ W0.heap.size := by rw [eW]; simp
  have HK := Lib.hid (show ∀ wk, Below (w.heap.size + 2) W0 wk → w.heap.size + 2 ≤ wk.heap.size ∧ wk.cell? ⟨w.heap.size, 0, none⟩ = some (.slice pa g.ns.length ca) ∧ wk.cell? ⟨w.heap.size, 1, none⟩ = some (.slice pb g.es.length cb) ∧ wk.cell? ⟨w.heap.size + 1, 0, none⟩ = some (.bool e.n) ∧ wk.cell? ⟨w.heap.size + 1, 1, none⟩ = some (.string e.v) ∧ wk.cell? ⟨w.heap.size + 1, 2, none⟩ = some (.int .i64 e.l.op) ∧ wk.cell? ⟨w.heap.size + 1, 3, none⟩ = some (.string e.l.a) ∧ wk.cell? ⟨w.heap.size + 1, 4, none⟩ = some (.slice p e.l.ks.list.length cap) ∧ wk.cell? ⟨w.heap.size + 1, 5, none⟩ = some (.int .i64 e.c.op) ∧ wk.cell? ⟨w.heap.size + 1, 6, none⟩ = some (.string e.c.a) ∧ wk.cell? ⟨w.heap.size + 1, 7, none⟩ = some (.slice p' e.c.ks.list.length cap') ∧ wk.cell? ⟨w.heap.size + 1, 8, none⟩ = some (.int .i64 e.d) from
    fun wk hk => by rw [eW] at hk; exact ⟨by have := hk.size; simp at this; omega, keepc hk (by omega) (by simp [go_sem]), keepc hk (by omega) (by simp [go_sem]), keepc hk (by omega) (by simp [go_sem]), keepc hk (by omega) (by simp [go_sem]), keepc hk (by omega) (by simp [go_sem]), keepc hk (by omega) (by simp [go_sem]), keepc hk (by omega) (by simp [go_sem]), keepc hk (by omega) (by simp [go_sem]), keepc hk (by omega) (by simp [go_sem]), keepc hk (by omega) (by simp [go_sem]), keepc hk (by omega) (by simp [go_sem])⟩)
  have HA := Lib.hid (Below.refl (w.heap.size + 2) W0)
  have HBK := Lib.hid (show ∀ wk, Below (w.heap.size + 2) W0 wk → Below B w wk from fun wk hk => (HV.out.trans (hk.mono (by omega))).mono hB)
  have HEA := Lib.hid (show ∀ wk, Below (w.heap.size + 2) W0 wk → e.At B wk (.agg #[.bool e.n, .string e.v, .int .i64 e.l.op, .string e.l.a, .slice p e.l.ks.list.length cap, .int .i64 e.c.op, .string e.c.a, .slice p' e.c.ks.list.length cap', .int .i64 e.d]) from fun wk hk => HU.out.below (HBK.out wk hk) (Nat.le_refl _))
  have HGA := Lib.hid (show ∀ wk, Below (w.heap.size + 2) W0 wk → g.At B wk (.agg #[.slice pa g.ns.length ca, .slice pb g.es.length cb]) from fun wk hk => HG.out.below (HBK.out wk hk))
  have HVA := Lib.hid (show ∀ wk, Below (w.heap.size + 2) W0 wk → Vars wk from fun wk hk => HVV.out.below (HV.out.trans (hk.mono (by omega))))
  have EW := Lib.hid eW
  clear eW
  go_enter Tryz.func9, Tryz.ntmps9
  go_wp2_with fail
  rw [← EW.out]
  have HNIL := Lib.hid (show ∀ wk, OwnSl 2 Hp.cells wk (.slice none 0 0) [] [] from fun wk => ⟨none, 0, 0, rfl, rfl, Nat.le_refl _, Nat.zero_le _, .inl ⟨rfl, rfl⟩⟩)
  refine (graphValid_any g _ B _ (HGA.out _ HA.out) (by omega) HOK.out).mono ?_
  rintro en w1 ⟨rfl, hb1⟩
  have HA := Lib.hid (HA.out.trans (hb1.mono (by omega)))
  clear hb1
  obtain ⟨hz, a0, a1, c0, c1, c2, c3, c4, c5, c6, c7, c8⟩ := HK.out _ HA.out
  cases hgv : gv g with
  | false =>
    have HE := Lib.hid (hopsR_no (node := node) (show (gv g && (elemV e && !e.n)) = false by rw [hgv]; rfl))
    clear hgv
    go_wp2_with fail
    go_ret
    exact ⟨_, [], rfl, by rw [HE.out]; exact HNIL.out _, by simp, HV.out.trans (HA.out.mono (by omega))⟩
  | true =>
  have HGV := Lib.hid hgv
  have h14 := gvh_len hgv
  clear hgv
  go_wp2_with fail
  refine (elemValid_any e _ B _ (HEA.out _ HA.out) (by omega) HS.out (HVA.out _ HA.out)).mono ?_
  rintro en w2 ⟨rfl, hb2⟩
  have HA := Lib.hid (HA.out.trans (hb2.mono (by omega)))
  clear hb2
  clear hz a0 a1 c0 c1 c2 c3 c4 c5 c6 c7 c8
  obtain ⟨hz, a0, a1, c0, c1, c2, c3, c4, c5, c6, c7, c8⟩ := HK.out _ HA.out
  cases hev : elemV e with
  | false =>
    have HE := Lib.hid (hopsR_no (node := node) (show (gv g && (elemV e && !e.n)) = false by rw [hev]; simp))
    clear hev
    go_wp2_with fail
    go_ret
    exact ⟨_, [], rfl, by rw [HE.out]; exact HNIL.out _, by simp, HV.out.trans (HA.out.mono (by omega))⟩
  | true =>
  cases hen : e.n with
  | true =>
    have HE := Lib.hid (hopsR_no (node := node) (show (gv g && (elemV e && !e.n)) = false by rw [hen]; simp))
    clear hev
    rw [hen] at c0
    clear hen
    go_wp2_with fail
    go_ret
    exact ⟨_, [], rfl, by rw [HE.out]; exact HNIL.out _, by simp, HV.out.trans (HA.out.mono (by omega))⟩
  | false =>
  have HE := Lib.hid (hopsR_yes (node := node) (show (gv g && (elemV e && !e.n)) = true by rw [HGV.out, hev, hen]; rfl))
  have HEN := Lib.hid hen
  rw [hen] at c0
  clear hev hen
  have hmz := hz
  go_wp2_with fail
  clear hz hmz a0 a1 c0 c1 c2 c3 c4 c5 c6 c7 c8
  go_loopw [7, 27] (fun fnd i wr => ∃ k : Nat, k ≤ g.es.length ∧ i = .int .i64 k ∧ wr.ownsRow (w.heap.size + 2) 67 2 fnd (hopsN node e g.es k).length (flt Hp.cells (hopsN node e g.es k)) ∧ Below (w.heap.size + 2) W0 wr) (fun _ i _ => g.es.length - (intOf i).toNat)
  case atStart => exact ⟨0, Nat.zero_le _, rfl, World.ownsRow_nil _ _ _ _, HA.out⟩
  case round =>
    obtain ⟨k, hk, rfl, hown, hbw⟩ := hrel
    have HA := Lib.hid hbw
    have HO := Lib.hid hown
    have hpl := hopsN_le node e g.es k
    clear hbw hown
    obtain ⟨hz, a0, a1, c0, c1, c2, c3, c4, c5, c6, c7, c8⟩ := HK.out _ HA.out
    by_cases hlt : k < g.es.length
    · obtain ⟨b, off, rfl, hbb, x0, x1, x2, x3⟩ := (HES.out.below (HBK.out _ HA.out)).ed hlt
      have hyes := Lib.hid (fun h => hopsN_yes (node := node) (e := e) hlt h)
      have hno := Lib.hid (fun h => hopsN_no (node := node) (e := e) hlt h)
      have HP := Lib.hid (pv_parts (gv_ed HGV.out hlt))
      obtain ⟨x, ex⟩ : ∃ x, x = g.es[k] := ⟨_, rfl⟩
      rw [← ex] at x0 x1 x2 x3 hyes hno HP
      clear ex
      have hq1 : w.heap.size < wr.heap.size := by omega
      have hq2 : w.heap.size + 1 < wr.heap.size := by omega
      go_wp2_with fail
      refine (followEdge_any x node e.d _).mono ?_
      rintro en w3 ⟨rfl, hb3⟩
      have s3 : wr.heap.size < w3.heap.size := by have := hb3.size; simp at this; omega
      have y2 := new_cell hb3 (j := 2) rfl
      have y3 := new_cell hb3 (j := 3) rfl
      have HO3 := Lib.hid (hop_kept (HO.out.alloc _) hb3)
      have HA := Lib.hid (HA.out.trans ((below_past hb3).mono (by omega)))
      clear hb3
      clear hz a0 a1 c0 c1 c2 c3 c4 c5 c6 c7 c8
      clear x0 x1 x2 x3
      obtain ⟨hz, a0, a1, c0, c1, c2, c3, c4, c5, c6, c7, c8⟩ := HK.out _ HA.out
      cases hf : follB node e.d x with
      | false =>
        have HY := Lib.hid (hno.out (show hopB node e x = false by unfold hopB; rw [hf]; rfl))
        clear hyes hno hf
        go_wp2_with fail
        go_roundw
        case rel => exact ⟨k + 1, by omega, by go_num, by rw [HY.out]; exact HO3.out, HA.out⟩
        case measure => simp [intOf]; omega
      | true =>
        go_wp2_with fail
        refine (propsFit_any e _ x.l x.n B _ (HEA.out _ HA.out) (by omega) HS.out HP.out.2.2 (HVA.out _ HA.out)).mono ?_
        rintro en w4 ⟨rfl, hb4⟩
        have s4 := hb4.size
        have HO4 := Lib.hid (hop_kept HO3.out hb4)
        have HA := Lib.hid (HA.out.trans (hb4.mono (by omega)))
        clear hb4 y2 y3
        clear hz a0 a1 c0 c1 c2 c3 c4 c5 c6 c7 c8
        cases hp : elemF e x.l x.n with
        | false =>
          have HY := Lib.hid (hno.out (show hopB node e x = false by unfold hopB; rw [hp]; simp))
          clear hyes hno hf hp
          go_wp2_with fail
          go_roundw
          case rel => exact ⟨k + 1, by omega, by go_num, by rw [HY.out]; exact HO4.out, HA.out⟩
          case measure => simp [intOf]; omega
        | true =>
          have HY := Lib.hid (hyes.out (show hopB node e x = true by unfold hopB; rw [hf, hp]; rfl))
          clear hyes hno hf hp
          go_wp2_with (at_builtin; refine wpList_append_own _ rfl _ _ 33 rfl (w.heap.size + 2) 67 i0 (.agg #[.int .i64 0, .int .i64 0]) 2 16 Tryz.underlying33 hi hzz0 hzz1 hzz2 rfl (by decide) _ _ _ rfl (HO4.out.alloc _) ⟨w4.heap.size, 0, none⟩ 1 1 [.int .i64 k, .int .i64 (follT node e.d x)] rfl rfl ?c1 ?c2 ?c3 ?c4 ?c5 ?_)
          case c1 =>
            intro j u hj
            match j, hj with
            | 0, hj => simp at hj; subst hj; simp [Addr.add]
            | 1, hj => simp at hj; subst hj; simp [Addr.add]
          case c2 => intro u hu; simp at hu; rcases hu with rfl | rfl <;> rfl
          case c3 => unfold maxLen; omega
          case c4 => omega
          case c5 => simp; omega
          intro v' w5 hown5 hgrow _
          have HA5 := Lib.hid ((HA.out.alloc (by omega) (.cells #[.int .i64 (k : Int), .int .i64 (follT node e.d x)] 67)).grown hgrow (by simp; omega) (fun q hq => (HO4.out.lt q hq).1))
          have HO5 := Lib.hid (show w5.ownsRow (w.heap.size + 2) 67 2 v' (hopsN node e g.es (k + 1)).length (flt Hp.cells (hopsN node e g.es (k + 1))) by rw [HY.out, hop_flat]; simpa using hown5)
          clear hown5 hgrow
          go_wp2_with fail
          go_roundw
          case rel => exact ⟨k + 1, by omega, by go_num, HO5.out, HA5.out⟩
          case measure => simp [intOf]; omega
    · obtain rfl : k = g.es.length := by omega
      go_wp2_with fail
      go_ret
      obtain ⟨F, h1, h2⟩ := hop_own HO.out
      exact ⟨_, F, rfl, by rw [HE.out]; exact h1, fun x hx => by have := h2 x hx; omega, HV.out.trans (HA.out.mono (by omega))⟩
end Go.Proofs.YtpojfgapldgigaaGreatDoor
