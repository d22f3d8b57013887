/- PushNots, on both sides. -/
import Derived.Test.YtckkebjpkcfmnaaDoorPushI
import Derived.Test.YtckkebjpkcfmnaaDoorPushS
import Derived.Test.YtckkebjpkcfmnaaDoorFmt
namespace Go.Proofs.YtckkebjpkcfmnaaDoor
open Go.RowKit

def pushOk (kind : Int) (e : Ex) : Bool := exV kind e && exV kind (e.push false)
def noEx : Ex := ⟨0, ⟨#[]⟩, .nil⟩
def pushR (kind : Int) (e : Ex) : Ex := if pushOk kind e then e.push false else noEx
theorem pushOk_bad {kind : Int} {e : Ex} (h : exV kind e = false) : pushOk kind e = false ∧ pushR kind e = noEx := by
  have h1 : pushOk kind e = false := by unfold pushOk; rw [h]; rfl
  exact ⟨h1, by unfold pushR; rw [h1]; rfl⟩
theorem pushOk_no {kind : Int} {e : Ex} (h : exV kind (e.push false) = false) : pushOk kind e = false ∧ pushR kind e = noEx := by
  have h1 : pushOk kind e = false := by unfold pushOk; rw [h]; simp
  exact ⟨h1, by unfold pushR; rw [h1]; rfl⟩
theorem pushOk_yes {kind : Int} {e : Ex} (h : exV kind e = true) (h2 : exV kind (e.push false) = true) : pushOk kind e = true ∧ pushR kind e = e.push false := by
  have h1 : pushOk kind e = true := by unfold pushOk; rw [h, h2]; rfl
  exact ⟨h1, by unfold pushR; rw [h1]; rfl⟩
theorem noEx_has (w : World) : noEx.Has (.agg #[.int .i64 0, .string ⟨#[]⟩, .slice none 0 0]) [] w := ⟨_, rfl, Fo.Own.empty w⟩
theorem Ex.push_sm {kind : Int} (d : Nat) : ∀ (e : Ex) (neg : Bool), e.okB kind d = true → (e.push neg).a.size ≤ 6 ∧ (e.push neg).ks.Sm := by
  induction d with
  | zero => intro e neg h; rw [Ex.okB_zero] at h; cases h
  | succ d ih =>
    intro e neg h
    obtain ⟨_, htop, hk⟩ := Ex.okB_parts h
    simp only [Nat.add_sub_cancel] at hk
    have hleaf : ∀ (a : ByteArray), a.size ≤ 6 → (leafP e.op a neg).a.size ≤ 6 ∧ (leafP e.op a neg).ks.Sm := by
      intro a ha
      unfold leafP
      cases neg
      · exact ⟨ha, trivial⟩
      · exact ⟨by simp [ByteArray.size], by show a.size ≤ 1048576; omega, trivial, trivial⟩
    rcases topB_cases htop with ⟨oo, hl, hat⟩ | ⟨oo, hl⟩ | ⟨oo, hl⟩ | ⟨oo, hl⟩ | ⟨oo, hl⟩
    · rw [Ex.push_leaf neg (.inl oo)]; exact hleaf _ (atom_size hat)
    · rw [Ex.push_leaf neg (.inr oo)]
      refine hleaf _ ?_
      unfold topB at htop
      rw [if_neg (by omega), if_pos oo] at htop
      simp only [Bool.and_eq_true, decide_eq_true_eq] at htop; omega
    · rw [Ex.push_not neg oo hl]; exact ih _ _ (hk 0 (by omega))
    · rw [Ex.push_two neg (.inl oo) hl]
      have h1 := ih _ neg (hk 0 (by omega))
      have h2 := ih _ neg (hk 1 (by omega))
      exact ⟨by simp [ByteArray.size], ⟨by omega, h1.2, by omega, h2.2, trivial⟩⟩
    · rw [Ex.push_two neg (.inr oo) hl]
      have h1 := ih _ neg (hk 0 (by omega))
      have h2 := ih _ neg (hk 1 (by omega))
      exact ⟨by simp [ByteArray.size], ⟨by omega, h1.2, by omega, h2.2, trivial⟩⟩

set_option maxRecDepth 100000 in
set_option maxHeartbeats 4000000 in
theorem pushNots_any (e : Ex) (v : Value) (kind : Int) (B : Nat) (w : World) (hv : e.At B w v) (hB : B ≤ w.heap.size) (ha : e.a.size ≤ 1048576) (hsm : e.ks.Sm) (hvars : Vars w) :
    Calls Tryd.prog 25 #[v, .int .i64 kind] w fun en w' => ∃ v' F, en = .returned (.tuple #[v', .bool (pushOk kind e)]) ∧ (pushR kind e).Has v' F w' ∧ (∀ x ∈ F, w.heap.size ≤ x) ∧ Below w.heap.size w w' := by
  have HSM := Lib.hid hsm
  have HE := Lib.hid hv
  have HVV := Lib.hid hvars
  obtain ⟨k, rfl, hk⟩ := hv
  obtain ⟨p, cap, rfl⟩ := hk.form
  have HKI := Lib.hid hk
  clear hk hsm hvars
  obtain ⟨W0, eW⟩ : ∃ W0, W0 = (w.alloc (.cells #[.int .i64 e.op, .string e.a, .slice p e.ks.list.length cap] 25)).alloc (.cells #[.int .i64 0, .string ⟨#[]⟩, .slice none 0 0] 25) := ⟨_, rfl⟩
  have HV := Lib.hid (show Below w.heap.size w W0 by rw [eW]; exact ((Below.refl w.heap.size w).alloc (by simp) _).alloc (by simp) _)
  have hs0 : w.heap.size + 2 ≤ W0.heap.size := by rw [eW]; simp
  have HK := Lib.hid (show ∀ wk, Below (w.heap.size + 2) W0 wk → w.heap.size + 2 ≤ wk.heap.size ∧ wk.cell? ⟨w.heap.size, 0, none⟩ = some (.int .i64 e.op) ∧ wk.cell? ⟨w.heap.size, 1, none⟩ = some (.string e.a) ∧ wk.cell? ⟨w.heap.size, 2, none⟩ = some (.slice p e.ks.list.length cap) ∧ wk.cell? ⟨w.heap.size + 1, 0, none⟩ = some (.int .i64 0) ∧ wk.cell? ⟨w.heap.size + 1, 1, none⟩ = some (.string ⟨#[]⟩) ∧ wk.cell? ⟨w.heap.size + 1, 2, none⟩ = some (.slice none 0 0) ∧ wk.frozen? ⟨w.heap.size + 1, 0, none⟩ = false ∧ wk.frozen? ⟨w.heap.size + 1, 1, none⟩ = false ∧ wk.frozen? ⟨w.heap.size + 1, 2, none⟩ = false from
    fun wk hk => by rw [eW] at hk; exact ⟨by have := hk.size; simp at this; omega, keepc hk (by omega) (by simp [go_sem]), keepc hk (by omega) (by simp [go_sem]), keepc hk (by omega) (by simp [go_sem]), keepc hk (by omega) (by simp [go_sem]), keepc hk (by omega) (by simp [go_sem]), keepc hk (by omega) (by simp [go_sem]), (hk.frozen (by simp)).trans (by simp [go_sem]), (hk.frozen (by simp)).trans (by simp [go_sem]), (hk.frozen (by simp)).trans (by simp [go_sem])⟩)
  have HA := Lib.hid (Below.refl (w.heap.size + 2) W0)
  have HEA := Lib.hid (show ∀ wk, Below (w.heap.size + 2) W0 wk → e.At B wk (.agg #[.int .i64 e.op, .string e.a, .slice p e.ks.list.length cap]) from fun wk hk => HE.out.below ((HV.out.trans (hk.mono (by omega))).mono hB) (Nat.le_refl _))
  have HVA := Lib.hid (show ∀ wk, Below (w.heap.size + 2) W0 wk → Vars wk from fun wk hk => HVV.out.below (HV.out.trans (hk.mono (by omega))))
  have EW := Lib.hid eW
  clear eW HE
  go_enter Tryd.func25, Tryd.ntmps25
  go_wp2_with fail
  rw [← EW.out]
  refine (exprValid_any e _ kind B _ (HEA.out _ HA.out) (by omega) ha HSM.out (HVA.out _ HA.out)).mono ?_
  rintro en w1 ⟨rfl, hb1⟩
  have HA := Lib.hid (HA.out.trans (hb1.mono (by omega)))
  clear hb1
  obtain ⟨hz1, c0, c1, c2, d0, d1, d2, f0, f1, f2⟩ := HK.out _ HA.out
  cases hV : exV kind e with
  | false =>
    have HT := Lib.hid (pushOk_bad hV)
    clear hV
    go_wp2_with fail
    refine bodyPost_ret (v := .tuple #[.agg #[.int .i64 0, .string ⟨#[]⟩, .slice none 0 0], .bool false]) (by simp [results, Tryd.results25, go_sem, d0, d1, d2]) rfl ⟨_, [], by rw [HT.out.1], by rw [HT.out.2]; exact noEx_has _, by simp, ?_⟩
    exact (((HV.out.trans (HA.out.mono (by omega))).setCell (by simp) _).setCell (by simp) _).setCell (by simp) _
  | true =>
    have HOK := Lib.hid (exV_ok hV)
    have HVE := Lib.hid hV
    clear hV
    go_wp2_with fail
    refine (pushI_any kind 12 e _ false B _ (HKI.out.below ((HV.out.trans (HA.out.mono (by omega))).mono hB) (Nat.le_refl _)) (by omega) HOK.out).mono ?_
    rintro en w2 ⟨v2, F2, rfl, ho2, hf2, hb2⟩
    have hz2 := hb2.size
    have HA := Lib.hid (HA.out.trans (hb2.mono (by omega)))
    have HO2 := Lib.hid ho2
    have HF2 := Lib.hid (show ∀ x ∈ F2, w.heap.size + 2 ≤ x from fun x hx => by have := hf2 x hx; omega)
    have hps := Ex.push_sm 12 e false HOK.out
    obtain ⟨R, eR⟩ : ∃ R, R = e.push false := ⟨_, rfl⟩
    rw [← eR] at HO2 hps
    have HPS := Lib.hid hps.2
    have hpa := hps.1
    obtain ⟨k2, rfl, hk2⟩ := HO2.out
    obtain ⟨p2, cap2, rfl⟩ := hk2.in.form
    have ER := Lib.hid eR
    clear ho2 hf2 hb2 hk2 hps c0 c1 c2 d0 d1 d2 f0 f1 f2 eR
    obtain ⟨hz3, c0, c1, c2, d0, d1, d2, f0, f1, f2⟩ := HK.out _ HA.out
    go_wp2_with fail
    have HA2 := Lib.hid (HA.out.alloc (by omega) (.cells #[.int .i64 R.op, .string R.a, .slice p2 R.ks.list.length cap2] 25))
    refine (exprValid_any R _ kind w2.heap.size _ (⟨_, rfl, (show R.ks.In w2.heap.size _ _ from (by obtain ⟨k', he', hk'⟩ := HO2.out; cases he'; exact hk'.in.below ((Below.refl _ _).alloc (Nat.le_refl _) _) (Nat.le_refl _)))⟩) (by simp) (by omega) HPS.out (HVA.out _ HA2.out)).mono ?_
    rintro en w3 ⟨rfl, hb3⟩
    have g0 := new_cell hb3 (j := 0) rfl
    have g1 := new_cell hb3 (j := 1) rfl
    have g2 := new_cell hb3 (j := 2) rfl
    have HA := Lib.hid (HA2.out.trans (hb3.mono (by simp; omega)))
    have HO3 := Lib.hid (HO2.out.below (below_past hb3))
    have hz4 : w2.heap.size < w3.heap.size := by have := hb3.size; simp at this; omega
    clear hb3 c0 c1 c2 d0 d1 d2 f0 f1 f2 HO2
    obtain ⟨hz5, c0, c1, c2, d0, d1, d2, f0, f1, f2⟩ := HK.out _ HA.out
    cases hW : exV kind R with
    | false =>
      have HT := Lib.hid (pushOk_no (e := e) (by rw [← ER.out]; exact hW))
      clear hW
      go_wp2_with fail
      refine bodyPost_ret (v := .tuple #[.agg #[.int .i64 0, .string ⟨#[]⟩, .slice none 0 0], .bool false]) (by simp [results, Tryd.results25, go_sem, d0, d1, d2]) rfl ⟨_, [], by rw [HT.out.1], by rw [HT.out.2]; exact noEx_has _, by simp, ?_⟩
      exact (((HV.out.trans (HA.out.mono (by omega))).setCell (by simp) _).setCell (by simp) _).setCell (by simp) _
    | true =>
      have HT := Lib.hid (pushOk_yes HVE.out (by rw [← ER.out]; exact hW))
      clear hW
      go_wp2_with fail
      refine bodyPost_ret (v := .tuple #[.agg #[.int .i64 R.op, .string R.a, .slice p2 R.ks.list.length cap2], .bool true]) (by simp [results, Tryd.results25, go_sem, d0, d1, d2]) rfl ⟨_, F2, by rw [HT.out.1], by rw [HT.out.2, ← ER.out]; exact HO3.out.chg (G := [w.heap.size + 1]) ((((Chg.refl _ _).setCell (by simp) _).setCell (by simp) _).setCell (by simp) _) (fun x hx => by have := HF2.out x hx; simp; omega), fun x hx => by have := HF2.out x hx; omega, ?_⟩
      exact (((HV.out.trans (HA.out.mono (by omega))).setCell (by simp) _).setCell (by simp) _).setCell (by simp) _

set_option maxRecDepth 100000 in
set_option maxHeartbeats 4000000 in
theorem specPushNots_any (e : Ex) (v : Value) (kind : Int) (B : Nat) (w : World) (hv : e.At B w v) (hB : B ≤ w.heap.size) (ha : e.a.size ≤ 1048576) (hsm : e.ks.Sm) :
    Calls Tryd.prog 27 #[v, .int .i64 kind] w fun en w' => ∃ v' F, en = .returned (.tuple #[v', .bool (pushOk kind e)]) ∧ (pushR kind e).Has v' F w' ∧ (∀ x ∈ F, w.heap.size ≤ x) ∧ Below w.heap.size w w' := by
  have HSM := Lib.hid hsm
  have HE := Lib.hid hv
  skip
  obtain ⟨k, rfl, hk⟩ := hv
  obtain ⟨p, cap, rfl⟩ := hk.form
  have HKI := Lib.hid hk
  clear hk hsm
  obtain ⟨W0, eW⟩ : ∃ W0, W0 = (w.alloc (.cells #[.int .i64 e.op, .string e.a, .slice p e.ks.list.length cap] 25)).alloc (.cells #[.int .i64 0, .string ⟨#[]⟩, .slice none 0 0] 25) := ⟨_, rfl⟩
  have HV := Lib.hid (show Below w.heap.size w W0 by rw [eW]; exact ((Below.refl w.heap.size w).alloc (by simp) _).alloc (by simp) _)
  have hs0 : w.heap.size + 2 ≤ W0.heap.size := by rw [eW]; simp
  have HK := Lib.hid (show ∀ wk, Below (w.heap.size + 2) W0 wk → w.heap.size + 2 ≤ wk.heap.size ∧ wk.cell? ⟨w.heap.size, 0, none⟩ = some (.int .i64 e.op) ∧ wk.cell? ⟨w.heap.size, 1, none⟩ = some (.string e.a) ∧ wk.cell? ⟨w.heap.size, 2, none⟩ = some (.slice p e.ks.list.length cap) ∧ wk.cell? ⟨w.heap.size + 1, 0, none⟩ = some (.int .i64 0) ∧ wk.cell? ⟨w.heap.size + 1, 1, none⟩ = some (.string ⟨#[]⟩) ∧ wk.cell? ⟨w.heap.size + 1, 2, none⟩ = some (.slice none 0 0) ∧ wk.frozen? ⟨w.heap.size + 1, 0, none⟩ = false ∧ wk.frozen? ⟨w.heap.size + 1, 1, none⟩ = false ∧ wk.frozen? ⟨w.heap.size + 1, 2, none⟩ = false from
    fun wk hk => by rw [eW] at hk; exact ⟨by have := hk.size; simp at this; omega, keepc hk (by omega) (by simp [go_sem]), keepc hk (by omega) (by simp [go_sem]), keepc hk (by omega) (by simp [go_sem]), keepc hk (by omega) (by simp [go_sem]), keepc hk (by omega) (by simp [go_sem]), keepc hk (by omega) (by simp [go_sem]), (hk.frozen (by simp)).trans (by simp [go_sem]), (hk.frozen (by simp)).trans (by simp [go_sem]), (hk.frozen (by simp)).trans (by simp [go_sem])⟩)
  have HA := Lib.hid (Below.refl (w.heap.size + 2) W0)
  have HEA := Lib.hid (show ∀ wk, Below (w.heap.size + 2) W0 wk → e.At B wk (.agg #[.int .i64 e.op, .string e.a, .slice p e.ks.list.length cap]) from fun wk hk => HE.out.below ((HV.out.trans (hk.mono (by omega))).mono hB) (Nat.le_refl _))
  skip
  have EW := Lib.hid eW
  clear eW HE
  go_enter Tryd.func27, Tryd.ntmps27
  go_wp2_with fail
  rw [← EW.out]
  refine (specExprValid_any e _ kind B _ (HEA.out _ HA.out) (by omega) ha HSM.out ).mono ?_
  rintro en w1 ⟨rfl, hb1⟩
  have HA := Lib.hid (HA.out.trans (hb1.mono (by omega)))
  clear hb1
  obtain ⟨hz1, c0, c1, c2, d0, d1, d2, f0, f1, f2⟩ := HK.out _ HA.out
  cases hV : exV kind e with
  | false =>
    have HT := Lib.hid (pushOk_bad hV)
    clear hV
    go_wp2_with fail
    refine bodyPost_ret (v := .tuple #[.agg #[.int .i64 0, .string ⟨#[]⟩, .slice none 0 0], .bool false]) (by simp [results, Tryd.results27, go_sem, d0, d1, d2]) rfl ⟨_, [], by rw [HT.out.1], by rw [HT.out.2]; exact noEx_has _, by simp, ?_⟩
    exact (((HV.out.trans (HA.out.mono (by omega))).setCell (by simp) _).setCell (by simp) _).setCell (by simp) _
  | true =>
    have HOK := Lib.hid (exV_ok hV)
    have HVE := Lib.hid hV
    clear hV
    go_wp2_with fail
    refine (pushS_any kind 12 e _ false B _ (HKI.out.below ((HV.out.trans (HA.out.mono (by omega))).mono hB) (Nat.le_refl _)) (by omega) HOK.out).mono ?_
    rintro en w2 ⟨v2, F2, rfl, ho2, hf2, hb2⟩
    have hz2 := hb2.size
    have HA := Lib.hid (HA.out.trans (hb2.mono (by omega)))
    have HO2 := Lib.hid ho2
    have HF2 := Lib.hid (show ∀ x ∈ F2, w.heap.size + 2 ≤ x from fun x hx => by have := hf2 x hx; omega)
    have hps := Ex.push_sm 12 e false HOK.out
    obtain ⟨R, eR⟩ : ∃ R, R = e.push false := ⟨_, rfl⟩
    rw [← eR] at HO2 hps
    have HPS := Lib.hid hps.2
    have hpa := hps.1
    obtain ⟨k2, rfl, hk2⟩ := HO2.out
    obtain ⟨p2, cap2, rfl⟩ := hk2.in.form
    have ER := Lib.hid eR
    clear ho2 hf2 hb2 hk2 hps c0 c1 c2 d0 d1 d2 f0 f1 f2 eR
    obtain ⟨hz3, c0, c1, c2, d0, d1, d2, f0, f1, f2⟩ := HK.out _ HA.out
    go_wp2_with fail
    have HA2 := Lib.hid (HA.out.alloc (by omega) (.cells #[.int .i64 R.op, .string R.a, .slice p2 R.ks.list.length cap2] 25))
    refine (specExprValid_any R _ kind w2.heap.size _ (⟨_, rfl, (show R.ks.In w2.heap.size _ _ from (by obtain ⟨k', he', hk'⟩ := HO2.out; cases he'; exact hk'.in.below ((Below.refl _ _).alloc (Nat.le_refl _) _) (Nat.le_refl _)))⟩) (by simp) (by omega) HPS.out ).mono ?_
    rintro en w3 ⟨rfl, hb3⟩
    have g0 := new_cell hb3 (j := 0) rfl
    have g1 := new_cell hb3 (j := 1) rfl
    have g2 := new_cell hb3 (j := 2) rfl
    have HA := Lib.hid (HA2.out.trans (hb3.mono (by simp; omega)))
    have HO3 := Lib.hid (HO2.out.below (below_past hb3))
    have hz4 : w2.heap.size < w3.heap.size := by have := hb3.size; simp at this; omega
    clear hb3 c0 c1 c2 d0 d1 d2 f0 f1 f2 HO2
    obtain ⟨hz5, c0, c1, c2, d0, d1, d2, f0, f1, f2⟩ := HK.out _ HA.out
    cases hW : exV kind R with
    | false =>
      have HT := Lib.hid (pushOk_no (e := e) (by rw [← ER.out]; exact hW))
      clear hW
      go_wp2_with fail
      refine bodyPost_ret (v := .tuple #[.agg #[.int .i64 0, .string ⟨#[]⟩, .slice none 0 0], .bool false]) (by simp [results, Tryd.results27, go_sem, d0, d1, d2]) rfl ⟨_, [], by rw [HT.out.1], by rw [HT.out.2]; exact noEx_has _, by simp, ?_⟩
      exact (((HV.out.trans (HA.out.mono (by omega))).setCell (by simp) _).setCell (by simp) _).setCell (by simp) _
    | true =>
      have HT := Lib.hid (pushOk_yes HVE.out (by rw [← ER.out]; exact hW))
      clear hW
      go_wp2_with fail
      refine bodyPost_ret (v := .tuple #[.agg #[.int .i64 R.op, .string R.a, .slice p2 R.ks.list.length cap2], .bool true]) (by simp [results, Tryd.results27, go_sem, d0, d1, d2]) rfl ⟨_, F2, by rw [HT.out.1], by rw [HT.out.2, ← ER.out]; exact HO3.out.chg (G := [w.heap.size + 1]) ((((Chg.refl _ _).setCell (by simp) _).setCell (by simp) _).setCell (by simp) _) (fun x hx => by have := HF2.out x hx; simp; omega), fun x hx => by have := HF2.out x hx; omega, ?_⟩
      exact (((HV.out.trans (HA.out.mono (by omega))).setCell (by simp) _).setCell (by simp) _).setCell (by simp) _
theorem pushR_size (kind : Int) (e : Ex) : (pushR kind e).ks.size ≤ 2097152 := by
  unfold pushR
  split
  · rename_i h
    unfold pushOk at h
    simp only [Bool.and_eq_true] at h
    have h2 := h.2
    unfold exV at h2
    simp only [Bool.and_eq_true, decide_eq_true_eq] at h2
    have := h2.2.2
    unfold Ex.size at this; omega
  · exact Nat.zero_le _
end Go.Proofs.YtckkebjpkcfmnaaDoor
