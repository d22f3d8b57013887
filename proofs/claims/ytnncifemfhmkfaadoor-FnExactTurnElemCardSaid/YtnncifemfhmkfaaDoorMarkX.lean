/- The laws' marks on expressions: what markExpr writes, heldExpr finds. -/
import Derived.Test.YtnncifemfhmkfaaDoorExTo
import Derived.Test.YtnncifemfhmkfaaDoorMark
import Derived.Deep.RegionHeld3
import Derived.Deep.DeepCutAuto
import Derived.StillTailTactics
namespace Go.Proofs.YtnncifemfhmkfaaDoor
open Go.RowKit

def Fo.mk : Fo → Int → Fo
  | .nil, _ => .nil
  | .cons _ _ k r, m => .cons m (mt (m + 1)) (k.mk (m + 2)) (r.mk (m + 2 + 2 * k.size))
theorem Fo.mk_len (f : Fo) : ∀ m : Int, (f.mk m).list.length = f.list.length := by
  induction f with
  | nil => intro m; rfl
  | cons o a k r _ ih => intro m; simp only [Fo.mk, Fo.list, List.length_cons, ih]
theorem Fo.mk_size (f : Fo) : ∀ m : Int, (f.mk m).size = f.size := by
  induction f with
  | nil => intro m; rfl
  | cons o a k r ihk ih => intro m; simp only [Fo.mk, Fo.size, ihk, ih]
theorem Fo.mk_app (f g : Fo) : ∀ m : Int, (f.app g).mk m = (f.mk m).app (g.mk (m + 2 * f.size)) := by
  induction f with
  | nil => intro m; simp [Fo.app, Fo.mk, Fo.size]
  | cons o a k r _ ih =>
    intro m
    simp only [Fo.app, Fo.mk, ih, Fo.size]
    congr 3
    simp only [Int.natCast_add, Int.natCast_one]; omega

/-- A row that is parted at a place: the place's cells, and the row anew when they have been changed. -/
theorem Fo.own_focus {g h : Fo} {o : Int} {a : ByteArray} {ks : Fo} {w : World} {p : Option Addr} {n cap : Nat} {F : List Nat} (hO : (g.app (.cons o a ks h)).Own w (.slice p n cap) F) :
    ∃ b kv F1 Fk F2, p = some ⟨b, 0, none⟩ ∧ F = b :: (F1 ++ (Fk ++ F2)) ∧ b < w.heap.size ∧ b ∉ Fk ∧ (∀ o, w.frozen? ⟨b, o, none⟩ = false) ∧ w.cell? ⟨b, g.list.length * 3, none⟩ = some (.int .i64 o) ∧ w.cell? ⟨b, g.list.length * 3 + 1, none⟩ = some (.string a) ∧
      w.cell? ⟨b, g.list.length * 3 + 2, none⟩ = some kv ∧ ks.Own w kv Fk ∧
      ∀ (w' : World) (o' : Int) (a' : ByteArray) (ks' : Fo), Chg (b :: Fk) w w' → (∀ i, i ≠ g.list.length * 3 → i ≠ g.list.length * 3 + 1 → w'.cell? ⟨b, i, none⟩ = w.cell? ⟨b, i, none⟩) → (∀ o, w'.frozen? ⟨b, o, none⟩ = false) →
        w'.cell? ⟨b, g.list.length * 3, none⟩ = some (.int .i64 o') → w'.cell? ⟨b, g.list.length * 3 + 1, none⟩ = some (.string a') → ks'.Own w' kv Fk → (g.app (.cons o' a' ks' h)).Own w' (.slice p n cap) F := by
  obtain ⟨p', cap', e, h1, h2, h3⟩ := hO
  cases e
  rcases h3 with ⟨h3, _⟩ | ⟨b, F', rfl, rfl, hb, hlt, hfz, hrow⟩
  · rw [Fo.list_app] at h3; simp [Fo.list] at h3
  obtain ⟨F1, F3, rfl, hd, r1, r2⟩ := Fo.orow_app.1 hrow
  obtain ⟨c0, c1, kv, Fk, F2, rfl, hd2, c2, hk, r3⟩ := Fo.orow_cons.1 r2
  have e1 : 1 + g.list.length * 3 = g.list.length * 3 + 1 := by omega
  have e2 : 2 + g.list.length * 3 = g.list.length * 3 + 2 := by omega
  rw [Nat.zero_add] at c0
  rw [e1] at c1
  rw [e2] at c2
  have hlen : ∀ (o' : Int) (a' : ByteArray) (ks' : Fo), (g.app (.cons o' a' ks' h)).list.length = (g.app (.cons o a ks h)).list.length := fun o' a' ks' => by simp [Fo.list_app, Fo.list]
  refine ⟨b, kv, F1, Fk, F2, rfl, rfl, hlt, fun hx => hb (by simp [hx]), hfz, c0, c1, c2, hk, ?_⟩
  intro w' o' a' ks' hch hcell hfz' d0 d1 hk'
  refine ⟨_, cap, by rw [hlen o' a' ks'], by rw [hlen o' a' ks']; exact h1, h2, .inr ⟨b, F1 ++ (Fk ++ F2), rfl, rfl, hb, Nat.lt_of_lt_of_le hlt hch.size, hfz', ?_⟩⟩
  refine Fo.orow_app.2 ⟨F1, Fk ++ F2, rfl, hd, r1.chg hch (fun x hx hx2 => ?_) (fun i hi => hcell i (by omega) (by omega)), ?_⟩
  · rcases List.mem_cons.1 hx2 with rfl | hx2
    · exact hb (by simp [hx])
    · exact hd x hx (by simp [hx2])
  refine Fo.orow_cons.2 ⟨by rw [Nat.zero_add]; exact d0, by rw [e1]; exact d1, kv, Fk, F2, rfl, hd2, by rw [e2]; exact (hcell _ (by omega) (by omega)).trans c2, hk', r3.chg hch (fun x hx hx2 => ?_) (fun i hi => hcell _ (by omega) (by omega))⟩
  rcases List.mem_cons.1 hx2 with rfl | hx2
  · exact hb (by simp [hx])
  · exact hd2 x hx2 hx

def MarkFo (f : Fo) : Prop := ∀ (v : Value) (F : List Nat) (m : Int) (w : World), f.Own w v F → 1 ≤ m → m + 2 * f.size ≤ 100000000 →
  Calls Tryd.prog 39 #[v, .int .i64 m] w fun e w' => e = .returned (.int .i64 (m + 2 * f.size)) ∧ (f.mk m).Own w' v F ∧ Chg F w w'

set_option maxRecDepth 100000 in
set_option maxHeartbeats 4000000 in
theorem markExprS_step (f : Fo) (ih : ∀ (k : Nat) (hk : k < f.list.length), MarkFo f.list[k].ks) : MarkFo f := by
  intro v F m w hv hm hb
  have IH := Lib.hid ih
  clear ih
  obtain ⟨p, cap, rfl⟩ := hv.in.form
  obtain ⟨_, hm1, hm2⟩ := hv.in.max
  unfold maxLen at hm2
  have HV := Lib.hid hv
  clear hv
  go_enter Tryd.func39, Tryd.ntmps39
  go_wp2_with fail
  go_loopw [1, 5] (fun kk i wr => ∃ (g h : Fo), RowKit.Hid (f = g.app h) ∧ i = .int .i64 (g.list.length : Int) ∧ kk = .int .i64 (m + 2 * (g.size : Int)) ∧ RowKit.Hid (((g.mk m).app h).Own wr (.slice p f.list.length cap) F) ∧ RowKit.Hid (Chg F w wr)) (fun _ i _ => f.list.length - (intOf i).toNat)
  case atStart => exact ⟨.nil, f, Lib.hid rfl, rfl, by simp [Fo.size], Lib.hid HV.out, Lib.hid (Chg.refl _ _)⟩
  case round =>
    obtain ⟨g, h, hf, rfl, rfl, HO, HC⟩ := hrel
    have hlen : f.list.length = g.list.length + h.list.length := by rw [hf.out, Fo.list_app, List.length_append]
    cases h with
    | nil =>
      have hle : f.list.length = g.list.length := by simpa [Fo.list] using hlen
      have hnl : ¬ ((g.list.length : Int) < (f.list.length : Int)) := by omega
      have HE := Lib.hid (show m + 2 * (g.size : Int) = m + 2 * (f.size : Int) ∧ (f.mk m).Own wr (.slice p f.list.length cap) F by
        have e : f = g := by rw [hf.out, Fo.app_nil]
        have := HO.out; rw [Fo.app_nil] at this
        rw [e] at this ⊢; exact ⟨rfl, this⟩)
      clear hlen hle
      go_wp2_with fail
      go_ret
      exact ⟨by rw [← HE.out.1]; rfl, HE.out.2, HC.out⟩
    | cons o a ks h =>
      have hlt : g.list.length < f.list.length := by rw [hlen]; simp [Fo.list]
      have hlt2 : (g.list.length : Int) < (f.list.length : Int) := by omega
      have hge : f.list[g.list.length] = ⟨o, a, ks⟩ := by
        have hl : f.list = g.list ++ (⟨o, a, ks⟩ :: h.list) := by rw [hf.out, Fo.list_app]; rfl
        simp only [hl]
        rw [List.getElem_append_right (Nat.le_refl _)]; simp
      have hih := IH.out g.list.length hlt
      rw [hge] at hih
      have hsz : f.size = g.size + (ks.size + h.size + 1) := by rw [hf.out, Fo.size_app]; rfl
      have hO := HO.out
      obtain ⟨b, kv, F1, Fk, F2, rfl, hF, hbl, hbk, hfz, c0, c1, c2, hks, hback⟩ := Fo.own_focus hO
      rw [Fo.mk_len] at c0 c1 c2 hback
      have hbF : b ∈ F := by rw [hF]; simp
      have hsub : ∀ x ∈ Fk, x ∈ F := fun x hx => by rw [hF]; simp [hx]
      have HBACK := Lib.hid hback
      have HKS := Lib.hid hks
      have HIH := Lib.hid hih
      have HFZ := Lib.hid hfz
      have hfrz0 := hfz (g.list.length * 3)
      have hfrz1 := hfz (g.list.length * 3 + 1)
      have HSUB := Lib.hid hsub
      have HBK := Lib.hid hbk
      have HBF := Lib.hid hbF
      have HSZ := Lib.hid hsz
      have hb1 : m + 2 * (g.size : Int) + 2 + 2 * ks.size ≤ 100000000 := by omega
      have hb0 : (0 : Int) ≤ (g.size : Int) := by omega
      clear hO hback hks hih hfz hge hF hlen hsub hbk hbF hsz hb
      go_wp2_with fail
      refine (markText_any _ _ (by omega) (by omega)).mono ?_
      rintro e w1 ⟨rfl, hb1'⟩
      have hz1 : b < w1.heap.size := by have := hb1'.size; simp at this; omega
      have HW1 := Lib.hid (show Chg [b] wr w1 from ((Chg.refl [b] wr).setCell (p := ⟨b, g.list.length * 3, none⟩) (by simp) (.int .i64 (m + 2 * (g.size : Int)))).then_below hb1')
      have d0 : w1.cell? ⟨b, g.list.length * 3, none⟩ = some (.int .i64 (m + 2 * (g.size : Int))) := keepc hb1' (by simpa using hbl) (set_same _ _ _ _ _ c0)
      have d1 : w1.cell? ⟨b, g.list.length * 3 + 1, none⟩ = some (.string a) := keepc hb1' (by simpa using hbl) ((set_near _ _ _ _ _ (by omega)).trans c1)
      have d2 : w1.cell? ⟨b, g.list.length * 3 + 2, none⟩ = some kv := keepc hb1' (by simpa using hbl) ((set_near _ _ _ _ _ (by omega)).trans c2)
      have HD := Lib.hid (show (∀ i, i ≠ g.list.length * 3 → w1.cell? ⟨b, i, none⟩ = wr.cell? ⟨b, i, none⟩) ∧ (∀ o, w1.frozen? ⟨b, o, none⟩ = false) from
        ⟨fun i hi => (hb1'.cell (p := ⟨b, i, none⟩) (by simpa using hbl)).trans (set_near _ _ _ _ _ (fun e => hi e.symm)), fun o => (hb1'.frozen (p := ⟨b, o, none⟩) (by simpa using hbl)).trans (by simpa [go_sem] using HFZ.out o)⟩)
      have f1 := HD.out.2 (g.list.length * 3 + 1)
      have HKS1 := Lib.hid (HKS.out.chg HW1.out (fun x hx => by simp; rintro rfl; exact HBK.out hx))
      clear hb1' c0 c1 c2 hfrz0 hfrz1
      obtain ⟨pk, ck, rfl⟩ := HKS1.out.in.form
      go_wp2_with fail
      have HKS2 := Lib.hid (HKS1.out.chg (G := [b]) (w' := w1.setCell ⟨b, g.list.length * 3 + 1, none⟩ (.string (mt (m + 2 * (g.size : Int) + 1)))) ((Chg.refl [b] w1).setCell (by simp) _) (fun x hx => by simp; rintro rfl; exact HBK.out hx))
      refine (HIH.out _ _ _ _ HKS2.out (by omega) (by omega)).mono ?_
      rintro e w2 ⟨rfl, hk2, hc2⟩
      have HN := Lib.hid (show ((g.mk m).app (.cons (m + 2 * (g.size : Int)) (mt (m + 2 * (g.size : Int) + 1)) (ks.mk (m + 2 * (g.size : Int) + 1 + 1)) h)).Own w2 (.slice (some ⟨b, 0, none⟩) f.list.length cap) F from by
        have hbw : ∀ i, w2.cell? ⟨b, i, none⟩ = (w1.setCell ⟨b, g.list.length * 3 + 1, none⟩ (.string (mt (m + 2 * (g.size : Int) + 1)))).cell? ⟨b, i, none⟩ := fun i => World.cell?_of_block (a := ⟨b, i, none⟩) (hc2.block b (by simpa using hz1) HBK.out)
        have hbf : ∀ i, w2.frozen? ⟨b, i, none⟩ = (w1.setCell ⟨b, g.list.length * 3 + 1, none⟩ (.string (mt (m + 2 * (g.size : Int) + 1)))).frozen? ⟨b, i, none⟩ := fun i => World.frozen?_of_block (a := ⟨b, i, none⟩) (hc2.block b (by simpa using hz1) HBK.out)
        refine HBACK.out w2 _ _ _ ?_ (fun i h1 h2 => ?_) (fun o => ?_) ?_ ?_ hk2
        · exact ((HW1.out.mono (fun x hx => by simp at hx; simp [hx])).trans (((Chg.refl (b :: Fk) w1).setCell (by simp) _).trans (hc2.mono (fun x hx => by simp [hx]))))
        · exact (hbw i).trans ((set_near _ _ _ _ _ (fun e => h2 e.symm)).trans (HD.out.1 i h1))
        · exact (hbf o).trans (by simpa [go_sem] using HD.out.2 o)
        · exact (hbw _).trans ((set_near _ _ _ _ _ (by omega)).trans d0)
        · exact (hbw _).trans (set_same _ _ _ _ _ d1))
      have HC2 := Lib.hid (show Chg F w w2 from HC.out.trans ((HW1.out.mono (fun x hx => by simp at hx; subst hx; exact HBF.out)).trans (((Chg.refl F w1).setCell HBF.out _).trans (hc2.mono HSUB.out))))
      clear hk2 hc2 d0 d1 d2 f1
      go_wp2_with fail
      go_roundw
      case rel =>
        refine ⟨g.app (.cons o a ks .nil), h, Lib.hid ?_, ?_, ?_, Lib.hid ?_, Lib.hid HC2.out⟩
        · rw [hf.out, Fo.app_assoc]; rfl
        · rw [Fo.list_app]; simp [Fo.list]
        · rw [Fo.size_app]; simp only [Fo.size]; congr 1; simp only [Int.natCast_add]; omega
        · rw [Fo.mk_app, Fo.app_assoc]
          have := HN.out
          rw [show m + 2 * (g.size : Int) + 1 + 1 = m + 2 * (g.size : Int) + 2 by omega] at this
          exact this
      case measure => simp [intOf]; omega
theorem markExprS_any (f : Fo) : MarkFo f := Fo.by_parts markExprS_step f
theorem markExpr_any (e : Ex) (v : Value) (F : List Nat) (m : Int) (w : World) (hv : e.Has v F w) (hm : 1 ≤ m) (hb : m + 2 * e.ks.size ≤ 100000000) :
    Calls Tryd.prog 23 #[v, .int .i64 m] w fun en w' => en = .returned (.int .i64 (m + 2 * e.ks.size)) ∧ (⟨e.op, e.a, e.ks.mk m⟩ : Ex).Has v F w' ∧ Chg F w w' := by
  obtain ⟨k, rfl, hk⟩ := hv
  obtain ⟨p, cap, rfl⟩ := hk.in.form
  have HK := Lib.hid hk
  clear hk
  go_enter Tryd.func23, Tryd.ntmps23
  go_wp2_with fail
  refine (markExprS_any e.ks _ F m _ (HK.out.below ((Below.refl _ _).alloc (Nat.le_refl _) _)) hm hb).mono ?_
  rintro en w1 ⟨rfl, h1, hc1⟩
  have H1 := Lib.hid h1
  have HC1 := Lib.hid ((Chg.of_below ((Below.refl w.heap.size w).alloc (Nat.le_refl _) (.cells #[.int .i64 e.op, .string e.a, .slice p e.ks.list.length cap] 30)) F).trans hc1)
  clear h1 hc1
  go_wp2_with fail
  go_ret
  exact ⟨rfl, ⟨_, rfl, H1.out⟩, HC1.out⟩

def HeldFo (f : Fo) : Prop := ∀ (v : Value) (m : Int) (B : Nat) (w : World), (f.mk m).In B w v → B ≤ w.heap.size → 1 ≤ m → m + 2 * f.size ≤ 100000000 →
  Calls Tryd.prog 40 #[v, .int .i64 m] w fun e w' => e = .returned (.int .i64 (m + 2 * f.size)) ∧ Below w.heap.size w w'

set_option maxRecDepth 100000 in
set_option maxHeartbeats 4000000 in
theorem heldExprS_step (f : Fo) (ih : ∀ (k : Nat) (hk : k < f.list.length), HeldFo f.list[k].ks) : HeldFo f := by
  intro v m B w hv hB hm hb
  have IH := Lib.hid ih
  clear ih
  obtain ⟨p, cap, hve⟩ := hv.form
  rw [Fo.mk_len] at hve
  subst hve
  obtain ⟨hx, hm1, hm2⟩ := hv.max
  clear hx
  unfold maxLen at hm2
  have HV := Lib.hid hv
  clear hv
  go_enter Tryd.func40, Tryd.ntmps40
  go_wp2_with fail
  go_loopw [1, 5] (fun kk i wr => ∃ (g h : Fo), RowKit.Hid (f = g.app h) ∧ i = .int .i64 (g.list.length : Int) ∧ kk = .int .i64 (m + 2 * (g.size : Int)) ∧ Below w.heap.size w wr) (fun _ i _ => f.list.length - (intOf i).toNat)
  case atStart => exact ⟨.nil, f, Lib.hid rfl, rfl, by simp [Fo.size], Below.refl _ _⟩
  case round =>
    obtain ⟨g, h, hf, rfl, rfl, hbw⟩ := hrel
    have hsz0 := hbw.size
    have HB := Lib.hid hbw
    clear hbw
    have hlen : f.list.length = g.list.length + h.list.length := by rw [hf.out, Fo.list_app, List.length_append]
    cases h with
    | nil =>
      have hle : f.list.length = g.list.length := by simpa [Fo.list] using hlen
      have hnl : ¬ ((g.list.length : Int) < (f.list.length : Int)) := by omega
      have HE := Lib.hid (show m + 2 * (g.size : Int) = m + 2 * (f.size : Int) by rw [hf.out, Fo.app_nil])
      clear hlen hle
      go_wp2_with fail
      go_ret
      exact ⟨by rw [← HE.out]; rfl, HB.out⟩
    | cons o a ks h =>
      have hlt : g.list.length < f.list.length := by rw [hlen]; simp [Fo.list]
      have hlt2 : (g.list.length : Int) < (f.list.length : Int) := by omega
      have hge : f.list[g.list.length] = ⟨o, a, ks⟩ := by
        have hl : f.list = g.list ++ (⟨o, a, ks⟩ :: h.list) := by rw [hf.out, Fo.list_app]; rfl
        simp only [hl]
        rw [List.getElem_append_right (Nat.le_refl _)]; simp
      have hih := IH.out g.list.length hlt
      rw [hge] at hih
      have hsz : f.size = g.size + (ks.size + h.size + 1) := by rw [hf.out, Fo.size_app]; rfl
      obtain ⟨b, off, q, n, c, rfl, hbl, c0, c1, c2, hin⟩ := (HV.out.below (HB.out.mono hB) (Nat.le_refl _)).get g.list.length (by rw [Fo.mk_len]; exact hlt)
      have hmg : (f.mk m).list[g.list.length]'(by rw [Fo.mk_len]; exact hlt) = ⟨m + 2 * (g.size : Int), mt (m + 2 * (g.size : Int) + 1), ks.mk (m + 2 * (g.size : Int) + 2)⟩ := by
        have hl : (f.mk m).list = (g.mk m).list ++ (⟨m + 2 * (g.size : Int), mt (m + 2 * (g.size : Int) + 1), ks.mk (m + 2 * (g.size : Int) + 2)⟩ :: (h.mk (m + 2 * (g.size : Int) + 2 + 2 * ks.size)).list) := by rw [hf.out, Fo.mk_app, Fo.list_app]; rfl
        simp only [hl]
        rw [List.getElem_append_right (by rw [Fo.mk_len]; exact Nat.le_refl _)]; simp [Fo.mk_len]
      rw [hmg] at c0 c1 hin
      have d0 : wr.cell? ⟨b, off + g.list.length * 3, none⟩ = some (.int .i64 (m + 2 * (g.size : Int))) := c0
      have d1 : wr.cell? ⟨b, off + g.list.length * 3 + 1, none⟩ = some (.string (mt (m + 2 * (g.size : Int) + 1))) := c1
      have HIN := Lib.hid hin
      have HIH := Lib.hid hih
      have HSZ := Lib.hid hsz
      have hb1 : m + 2 * (g.size : Int) + 2 + 2 * ks.size ≤ 100000000 := by omega
      have hb0 : (0 : Int) ≤ (g.size : Int) := by omega
      clear c0 c1 hin hih hge hmg hlen hsz hb
      have zb : b < wr.drew.heap.size := by simp; omega
      have zb' : b < wr.heap.size := by omega
      have zw : w.heap.size ≤ wr.drew.heap.size := hsz0
      have HBd := Lib.hid HB.out.drew
      go_upto_region 7 with fail
      go_cut [28] (fun s wx => s = .bool false ∧ Below wr.heap.size wr wx)
      case first =>
        have rr := Below.refl wr.heap.size wr
        go_region_held3 (fun w' => w'.cell? ⟨b, off + g.list.length * 3 + 1, none⟩ = some (.string (mt (m + 2 * (g.size : Int) + 1))))
          (first | exact d1 | exact S6.out)
          (first | (go_at_call 49; refine (markText_any _ _ (by omega) (by omega)).mono ?_; rintro e wc ⟨rfl, hbc⟩; have S6 := Lib.hid (keepc hbc zb d1); have hbd := Below.trans (show Below wr.heap.size wr _ by ((repeat (first | with_reducible assumption | with_reducible exact Below.refl _ _ | refine Below.setCell ?_ (by (first | omega | (simp; omega) | (simp; done) | fail "sml")) _ | refine Below.drew ?_ | refine Below.alloc ?_ (by (first | omega | (simp; omega) | (simp; done) | fail "sml")) _)); first | done | fail "chs")) (hbc.mono (by simp)); clear hbc))
        all_goals (go_wp2_with fail; go_meet)
        all_goals exact ⟨rfl, by ((repeat (first | with_reducible assumption | with_reducible exact Below.refl _ _ | refine Below.setCell ?_ (by (first | omega | (simp; omega) | (simp; done) | fail "sml")) _ | refine Below.drew ?_ | refine Below.alloc ?_ (by (first | omega | (simp; omega) | (simp; done) | fail "sml")) _)); first | done | fail "chs")⟩
      case rest =>
        obtain ⟨rfl, hbx⟩ := hcut
        have hzx := hbx.size
        have e2 := keepc hbx zb' c2
        have HBx := Lib.hid (HB.out.trans (hbx.mono hsz0))
        have HINx := Lib.hid (HIN.out.below (hbx.mono (by omega)) (Nat.le_refl _))
        clear hbx d0 d1 c2 zb zw HBd
        go_wp2_with fail
        refine (HIH.out _ _ B _ (by rw [show m + 2 * (g.size : Int) + 1 + 1 = m + 2 * (g.size : Int) + 2 by omega]; exact HINx.out) (by omega) (by omega) (by omega)).mono ?_
        rintro e w2 ⟨rfl, hb2⟩
        have HB2 := Lib.hid (HBx.out.trans (hb2.mono (by omega)))
        clear hb2
        have hn2 : ¬ (m + 2 * (g.size : Int) + 1 + 1 + 2 * (ks.size : Int) < 0) := by omega
        go_wp2_with fail
        go_roundw
        case rel =>
          refine ⟨g.app (.cons o a ks .nil), h, Lib.hid ?_, ?_, ?_, HB2.out⟩
          · rw [hf.out, Fo.app_assoc]; rfl
          · rw [Fo.list_app]; simp [Fo.list]
          · rw [Fo.size_app]; simp only [Fo.size]; congr 1; simp only [Int.natCast_add]; omega
        case measure => simp [intOf]; omega
theorem heldExprS_any (f : Fo) : HeldFo f := Fo.by_parts heldExprS_step f
theorem heldExpr_any (e : Ex) (v : Value) (m : Int) (B : Nat) (w : World) (hv : (⟨e.op, e.a, e.ks.mk m⟩ : Ex).At B w v) (hB : B ≤ w.heap.size) (hm : 1 ≤ m) (hb : m + 2 * e.ks.size ≤ 100000000) :
    Calls Tryd.prog 24 #[v, .int .i64 m] w fun en w' => en = .returned (.int .i64 (m + 2 * e.ks.size)) ∧ Below w.heap.size w w' := by
  obtain ⟨k, rfl, hk⟩ := hv
  obtain ⟨p, cap, hke⟩ := hk.form
  have HK := Lib.hid hk
  clear hk
  subst hke
  have hn : ¬ (m + 2 * (e.ks.size : Int) < 0) := by omega
  go_enter Tryd.func24, Tryd.ntmps24
  go_wp2_with fail
  refine (heldExprS_any e.ks _ m B _ (HK.out.below ((Below.refl B w).alloc hB _) (Nat.le_refl _)) (by simp; omega) hm hb).mono ?_
  rintro en w1 ⟨rfl, hb1⟩
  have HB1 := Lib.hid (below_past hb1)
  clear hb1
  go_wp2_with fail
  go_ret
  exact ⟨rfl, HB1.out⟩
end Go.Proofs.YtnncifemfhmkfaaDoor
