/- Which nodes and edges fit an element: NodeFits, EdgeFits, on both sides. -/
import Derived.Test.YtbbemeaojmfndaaDoorM5q0p1
import Derived.Test.YtbbemeaojmfndaaDoorM0q0p1
import Derived.Deep.RegionHeld3
import Derived.Deep.DeepCutAuto
import Derived.StillTailTactics
namespace Go.Proofs.YtbbemeaojmfndaaDoor
open Go.RowKit

def ndAt (g : Gr) (n : Int) : Nd := g.ns.getD n.toNat ⟨⟨#[]⟩, 0⟩
def edAt (g : Gr) (n : Int) : Ed := g.es.getD n.toNat ⟨0, 0, ⟨#[]⟩, 0⟩
def nodeF (g : Gr) (n : Int) (e : El) : Bool := gv g && (hn g.ns.length n && (elemV e && (e.n && elemF e (ndAt g n).l (ndAt g n).n)))
def edgeF (g : Gr) (n : Int) (e : El) : Bool := gv g && (hn g.es.length n && (elemV e && (!e.n && elemF e (edAt g n).l (edAt g n).n)))
theorem ndAt_eq {g : Gr} {k : Nat} (h : k < g.ns.length) : ndAt g (k : Int) = g.ns[k] := by unfold ndAt; simp [List.getD_eq_getElem?_getD, h]
theorem edAt_eq {g : Gr} {k : Nat} (h : k < g.es.length) : edAt g (k : Int) = g.es[k] := by unfold edAt; simp [List.getD_eq_getElem?_getD, h]
theorem hn_at {k n : Nat} (h : k < n) : hn n (k : Int) = true := by unfold hn; simp; omega
theorem hn_neg {n : Nat} {i : Int} (h : i < 0) : hn n i = false := by unfold hn; rw [decide_eq_false (p := 0 ≤ i) (by omega)]; rfl
theorem hn_big {n : Nat} {i : Int} (h : (n : Int) ≤ i) : hn n i = false := by unfold hn; rw [decide_eq_false (p := i < (n : Int)) (by omega)]; simp
theorem pv_parts {s : ByteArray} {n : Int} (h : pv s n = true) : lbl s = true ∧ nm n = true ∧ s.size ≤ 1048576 := by
  rw [pv_eq] at h
  simp only [Bool.and_eq_true] at h
  refine ⟨h.1, h.2, ?_⟩
  have h1 := h.1
  unfold lbl at h1
  simp only [Bool.or_eq_true, decide_eq_true_eq] at h1
  rcases h1 with h1 | h1
  · omega
  · unfold lv lvL at h1
    simp only [Bool.and_eq_true, decide_eq_true_eq] at h1
    have := h1.1.2
    rw [len_toList] at this; omega
theorem gv_nd {g : Gr} (h : gv g = true) {k : Nat} (hk : k < g.ns.length) : pv g.ns[k].l g.ns[k].n = true := by
  unfold gv at h
  simp only [Bool.and_eq_true, List.all_eq_true] at h
  exact h.2.1 _ (List.getElem_mem hk)
theorem gv_ed {g : Gr} (h : gv g = true) {k : Nat} (hk : k < g.es.length) : pv g.es[k].l g.es[k].n = true := by
  unfold gv at h
  simp only [Bool.and_eq_true, List.all_eq_true] at h
  have := h.2.2 _ (List.getElem_mem hk)
  unfold edV at this
  simp only [Bool.and_eq_true] at this
  exact this.2.2

set_option maxRecDepth 100000 in
set_option maxHeartbeats 8000000 in
theorem nodeFits_any (g : Gr) (e : El) (v u : Value) (n : Int) (B : Nat) (w : World) (hg : g.At B w v) (hu : e.At B w u) (hB : B ≤ w.heap.size) (hok : g.Ok) (hs : e.Sm) (hvars : Vars w) :
    Calls Tryd.prog 12 #[v, .int .i64 n, u] w fun en w' => en = .returned (.bool (nodeF g n e)) ∧ Below w.heap.size w w' := by
  have HG := Lib.hid hg
  have HU := Lib.hid hu
  have HS := Lib.hid hs
  have HOK := Lib.hid hok
  have HVV := Lib.hid hvars
  obtain ⟨va, vb, rfl, hns, hes⟩ := hg
  obtain ⟨pa, ca, rfl⟩ := hns.form
  obtain ⟨pb, cb, rfl⟩ := hes.form
  have hm1 := hns.max
  have hm2 := hes.max
  unfold maxLen at hm1 hm2
  have HNS := Lib.hid hns
  have HES := Lib.hid hes
  obtain ⟨p, cap, p', cap', rfl, _, _⟩ := hu.form
  clear hu hs hok hns hes hvars
  obtain ⟨W0, eW⟩ : ∃ W0, W0 = (w.alloc (.cells #[.slice pa g.ns.length ca, .slice pb g.es.length cb] 36)).alloc (.cells #[.bool e.n, .string e.v, .int .i64 e.l.op, .string e.l.a, .slice p e.l.ks.list.length cap, .int .i64 e.c.op, .string e.c.a, .slice p' e.c.ks.list.length cap', .int .i64 e.d] 27) := ⟨_, rfl⟩
  have HV := Lib.hid (show Below w.heap.size w W0 by rw [eW]; exact ((Below.refl w.heap.size w).alloc (by simp) _).alloc (by simp) _)
  have hs0 : w.heap.size + 2 ≤ W0.heap.size := by rw [eW]; simp
  have HK := Lib.hid (show ∀ wk, Below (w.heap.size + 2) W0 wk → w.heap.size + 2 ≤ wk.heap.size ∧ wk.cell? ⟨w.heap.size, 0, none⟩ = some (.slice pa g.ns.length ca) ∧ wk.cell? ⟨w.heap.size, 1, none⟩ = some (.slice pb g.es.length cb) ∧ wk.cell? ⟨w.heap.size + 1, 0, none⟩ = some (.bool e.n) ∧ wk.cell? ⟨w.heap.size + 1, 1, none⟩ = some (.string e.v) ∧ wk.cell? ⟨w.heap.size + 1, 2, none⟩ = some (.int .i64 e.l.op) ∧ wk.cell? ⟨w.heap.size + 1, 3, none⟩ = some (.string e.l.a) ∧ wk.cell? ⟨w.heap.size + 1, 4, none⟩ = some (.slice p e.l.ks.list.length cap) ∧ wk.cell? ⟨w.heap.size + 1, 5, none⟩ = some (.int .i64 e.c.op) ∧ wk.cell? ⟨w.heap.size + 1, 6, none⟩ = some (.string e.c.a) ∧ wk.cell? ⟨w.heap.size + 1, 7, none⟩ = some (.slice p' e.c.ks.list.length cap') ∧ wk.cell? ⟨w.heap.size + 1, 8, none⟩ = some (.int .i64 e.d) from
    fun wk hk => by rw [eW] at hk; exact ⟨by have := hk.size; simp at this; omega, keepc hk (by omega) (by simp [go_sem]), keepc hk (by omega) (by simp [go_sem]), keepc hk (by omega) (by simp [go_sem]), keepc hk (by omega) (by simp [go_sem]), keepc hk (by omega) (by simp [go_sem]), keepc hk (by omega) (by simp [go_sem]), keepc hk (by omega) (by simp [go_sem]), keepc hk (by omega) (by simp [go_sem]), keepc hk (by omega) (by simp [go_sem]), keepc hk (by omega) (by simp [go_sem]), keepc hk (by omega) (by simp [go_sem])⟩)
  have HA := Lib.hid (Below.refl (w.heap.size + 2) W0)
  have HBK := Lib.hid (show ∀ wk, Below (w.heap.size + 2) W0 wk → Below B w wk from fun wk hk => (HV.out.trans (hk.mono (by omega))).mono hB)
  have HEA := Lib.hid (show ∀ wk, Below (w.heap.size + 2) W0 wk → e.At B wk (.agg #[.bool e.n, .string e.v, .int .i64 e.l.op, .string e.l.a, .slice p e.l.ks.list.length cap, .int .i64 e.c.op, .string e.c.a, .slice p' e.c.ks.list.length cap', .int .i64 e.d]) from fun wk hk => HU.out.below (HBK.out wk hk) (Nat.le_refl _))
  have HGA := Lib.hid (show ∀ wk, Below (w.heap.size + 2) W0 wk → g.At B wk (.agg #[.slice pa g.ns.length ca, .slice pb g.es.length cb]) from fun wk hk => HG.out.below (HBK.out wk hk))
  have HVA := Lib.hid (show ∀ wk, Below (w.heap.size + 2) W0 wk → Vars wk from fun wk hk => HVV.out.below (HV.out.trans (hk.mono (by omega))))
  have EW := Lib.hid eW
  clear eW
  go_enter Tryd.func12, Tryd.ntmps12
  go_wp2_with fail
  rw [← EW.out]
  obtain ⟨hz, a0, a1, c0, c1, c2, c3, c4, c5, c6, c7, c8⟩ := HK.out _ HA.out
  refine (graphValid_any g _ B _ (HGA.out _ HA.out) (by omega) HOK.out).mono ?_
  rintro en w1 ⟨rfl, hb⟩
  have HA := Lib.hid (HA.out.trans (hb.mono (by omega)))
  clear hb hz a0 a1 c0 c1 c2 c3 c4 c5 c6 c7 c8
  obtain ⟨hz, a0, a1, c0, c1, c2, c3, c4, c5, c6, c7, c8⟩ := HK.out _ HA.out
  cases hgv : gv g with
  | false =>
    have HT := Lib.hid (show nodeF g n e = false by unfold nodeF; rw [hgv]; rfl)
    clear hgv
    go_wp2_with fail
    go_ret
    exact ⟨by rw [HT.out]; first | rfl | simp [*], HV.out.trans (HA.out.mono (by omega))⟩
  | true =>
    go_wp2_with fail
    refine (hasNode_any g _ n B _ (HGA.out _ HA.out)).mono ?_
    rintro en w2 ⟨rfl, hb⟩
    have HA := Lib.hid (HA.out.trans (hb.mono (by omega)))
    clear hb hz a0 a1 c0 c1 c2 c3 c4 c5 c6 c7 c8
    obtain ⟨hz, a0, a1, c0, c1, c2, c3, c4, c5, c6, c7, c8⟩ := HK.out _ HA.out
    by_cases hb1 : n < 0
    · have HN := hn_neg (n := g.ns.length) hb1
      have HT := Lib.hid (show nodeF g n e = false by unfold nodeF; rw [HN]; simp)
      rw [HN]
      clear HN
      go_wp2_with fail
      go_ret
      exact ⟨by rw [HT.out]; first | rfl | simp [*], HV.out.trans (HA.out.mono (by omega))⟩
    by_cases hb2 : (g.ns.length : Int) ≤ n
    · have HN := hn_big hb2
      have HT := Lib.hid (show nodeF g n e = false by unfold nodeF; rw [HN]; simp)
      rw [HN]
      clear HN
      go_wp2_with fail
      go_ret
      exact ⟨by rw [HT.out]; first | rfl | simp [*], HV.out.trans (HA.out.mono (by omega))⟩
    obtain ⟨k, rfl⟩ : ∃ k : Nat, n = (k : Int) := ⟨n.toNat, by omega⟩
    have hk : k < g.ns.length := by omega
    rw [hn_at hk]
    clear hb1 hb2
    go_wp2_with fail
    refine (elemValid_any e _ B _ (HEA.out _ HA.out) (by omega) HS.out (HVA.out _ HA.out)).mono ?_
    rintro en w3 ⟨rfl, hb⟩
    have HA := Lib.hid (HA.out.trans (hb.mono (by omega)))
    clear hb hz a0 a1 c0 c1 c2 c3 c4 c5 c6 c7 c8
    obtain ⟨hz, a0, a1, c0, c1, c2, c3, c4, c5, c6, c7, c8⟩ := HK.out _ HA.out
    cases hEV : elemV e with
    | false =>
      have HT := Lib.hid (show nodeF g (k : Int) e = false by unfold nodeF; rw [hEV]; simp)
      clear hEV
      go_wp2_with fail
      go_ret
      exact ⟨by rw [HT.out]; first | rfl | simp [*], HV.out.trans (HA.out.mono (by omega))⟩
    | true =>
      cases hen : e.n with
      | false =>
        have HT := Lib.hid (show nodeF g (k : Int) e = false by unfold nodeF; rw [hen]; simp)
        rw [hen] at c0
        clear hen hEV
        go_wp2_with fail
        go_ret
        exact ⟨by rw [HT.out]; first | rfl | simp [*], HV.out.trans (HA.out.mono (by omega))⟩
      | true =>
        rw [hen] at c0
        rw [hen] at HEA
        clear HU
        obtain ⟨b, off, hpe, hb0, d0, d1⟩ := (HNS.out.below (HBK.out _ HA.out)).nd hk
        have hpv := gv_nd hgv hk
        obtain ⟨x, ex⟩ : ∃ x, x = g.ns[k] := ⟨_, rfl⟩
        rw [← ex] at d0 d1 hpv
        have HT := Lib.hid (show nodeF g (k : Int) e = elemF e x.l x.n by unfold nodeF; rw [hgv, hn_at hk, hEV, hen, ndAt_eq hk, ← ex]; simp)
        obtain ⟨hlb, hnm, hls⟩ := pv_parts hpv
        clear ex hpv hgv hEV hen hlb hnm
        subst hpe
        go_wp2_with fail
        go_still_tail 13, (by kernel_rfl)
        go_wp2_with fail
        refine (propsFit_any e _ x.l x.n B _ ((HEA.out _ HA.out).below (Below.refl _ _).drew (Nat.le_refl _)) (by simp; omega) HS.out hls ((HVA.out _ HA.out).below (Below.refl _ _).drew)).mono ?_
        rintro en wz ⟨rfl, hb⟩
        have HA := Lib.hid (HA.out.drew.trans (hb.mono (by simp; omega)))
        clear hb hz a0 a1 c0 c1 c2 c3 c4 c5 c6 c7 c8
        go_wp2_with fail
        go_ret
        exact ⟨by rw [HT.out]; first | rfl | simp [*], HV.out.trans (HA.out.mono (by omega))⟩

end Go.Proofs.YtbbemeaojmfndaaDoor
