/- spec.l11Copy: a table copied by appends. -/
import Derived.Test.YtfdkmngkpihpbaaTbA
import Derived.Test.YtfdkmngkpihpbaaOwnM
import Derived.Test.YtfdkmngkpihpbaaInts
namespace Go.Proofs.Ytfdkmngkpihpbaa
open Go.RowKit

theorem rowNone {E : World} {s u : Value} {ys : List Int} {B : Nat} (h : OwnI E s [] []) (hu : Sl 1 intCells B E u ys) (hl : ys.length ≤ 3000000) (ty : TypeId) :
    ∃ v' w', (Builtin.append_ #[23, 23] ty #[s, u]).run Try.prog E = .ok v' w' ∧ ∃ F p c, v' = .slice p ys.length c ∧ OwnSl 1 intCells w' v' ys F ∧ (∀ y ∈ F, E.heap.size ≤ y) ∧ Below E.heap.size E w' := by
  obtain ⟨v', w', hr, F, h1, h2, h3⟩ := app_ints h hu (by simpa using hl) ty
  have h4 : OwnI w' v' ys F := by simpa using h1
  obtain ⟨p, c, e⟩ := h4.form
  exact ⟨v', w', hr, F, p, c, e, h4.own, fun y hy => by rcases h2 y hy with h | h; (simp at h); exact h, h3.below (Nat.le_refl _) (by simp)⟩
theorem strNone {E : World} {s u : Value} {ys : List ByteArray} {B : Nat} (h : OwnS (α := ByteArray) 1 strCells 9 E s [] []) (hu : kStr.Rd B E u ys) (hl : ys.length ≤ 3000000) (ty : TypeId) :
    ∃ v' w', (Builtin.append_ #[30, 30] ty #[s, u]).run Try.prog E = .ok v' w' ∧ ∃ F p c, v' = .slice p ys.length c ∧ kStr.Ow w' v' ys F ∧ (∀ y ∈ F, E.heap.size ≤ y) ∧ Below E.heap.size E w' := by
  obtain ⟨i, hi, hzz⟩ := Option.map_eq_some_iff.1 infoStrT
  simp only [Prod.mk.injEq] at hzz
  obtain ⟨hz, hs, hb⟩ := hzz
  obtain ⟨v', w', hr, F, h1, h2, h3⟩ := OwnS.appends (enc := strCells) (sz := 1) (fun _ => rfl) (fun x u hu => by simp [strCells] at hu; subst hu; rfl) 30 ty 9 i _ 16 Try.underlying30 hi hz hs hb (by decide) h ys u B (kStr_rd.1 hu) (by simpa using hl) (by simp; omega)
  have h4 : OwnS 1 strCells 9 w' v' ys F := by simpa using h1
  obtain ⟨p, c, e⟩ := h4.form
  exact ⟨v', w', hr, F, p, c, e, kStr_ow.2 (OwnS.own (enc := strCells) (fun _ => rfl) h4), fun y hy => by rcases h2 y hy with h | h; (simp at h); exact h, h3.below (Nat.le_refl _) (by simp)⟩
/-- A result's cells, made ahead of what comes. -/
theorem resOf {w w2 : World} {t : TypeId} {o : Obj} (hb : Below ((w.alloc (.cells #[.slice none 0 0, .slice none 0 0] t)).alloc o).heap.size ((w.alloc (.cells #[.slice none 0 0, .slice none 0 0] t)).alloc o) w2) : ∀ E, Below (w.heap.size + 1) w2 E → w.heap.size < E.heap.size ∧ (E.cell? ⟨w.heap.size, 0, none⟩ = some (.slice none 0 0) ∧ E.cell? ⟨w.heap.size, 1, none⟩ = some (.slice none 0 0)) ∧ E.frozen? ⟨w.heap.size, 0, none⟩ = false ∧ E.frozen? ⟨w.heap.size, 1, none⟩ = false := fun E hE => by
  have hE2 : Below (w.heap.size + 1) ((w.alloc (.cells #[.slice none 0 0, .slice none 0 0] t)).alloc o) E := (hb.mono (by simp)).trans hE
  exact ⟨by have := hE2.size; simp at this; omega, ⟨keepc hE2 (by omega) (by simp [go_sem]), keepc hE2 (by omega) (by simp [go_sem])⟩, (hE2.frozen (p := ⟨w.heap.size, 0, none⟩) (by show w.heap.size < w.heap.size + 1; omega)).trans (by simp [go_sem]), (hE2.frozen (p := ⟨w.heap.size, 1, none⟩) (by show w.heap.size < w.heap.size + 1; omega)).trans (by simp [go_sem])⟩
def TbOne (R : Tb) (w : World) (en : Ending) (w' : World) : Prop := ∃ v F, en = .returned v ∧ R.Has v F w' ∧ (∀ y ∈ F, w.heap.size ≤ y) ∧ Below w.heap.size w w'

set_option maxRecDepth 100000 in
set_option maxHeartbeats 4000000 in
theorem l11Copy_any (cs : List ByteArray) (rs : List (List Int)) (va vb : Value) (B : Nat) (w : World) (ha : kStr.Rd B w va cs) (hb : kRow.Rd B w vb rs) (hB : B ≤ w.heap.size) (hn1 : cs.length ≤ 1048576) (hn2 : rs.length + sumR rs ≤ 1048576) :
    Calls Try.prog 66 #[va, vb] w (TbOne ⟨cs, rs⟩ w) := by
  have HAR := Lib.hid ha
  have HBR := Lib.hid hb
  obtain ⟨p0, c0, rfl⟩ := ha.form
  obtain ⟨q, d, rfl⟩ := hb.form
  have hmx := hb.max
  have hmx1 := ha.max
  unfold maxLen at hmx hmx1
  clear ha hb
  go_enter Try.func66, Try.ntmps66
  have r0 := Below.refl w.heap.size w
  go_wp2_with (at_builtin; refine wpApp rfl (.tmp 7) (.tmp 8) 30 rfl _ _ rfl rfl _ (strNone (OwnS.empty _) (HAR.out.to ((show Below w.heap.size w _ by ((repeat (first | with_reducible assumption | with_reducible exact Below.refl _ _ | refine Below.setCell ?_ (by (first | omega | (simp; omega) | (simp; done) | fail "sml")) _ | refine Below.drew ?_ | refine Below.alloc ?_ (by (first | omega | (simp; omega) | (simp; done) | fail "sml")) _)); first | done | fail "chs")).mono hB) (Nat.le_refl _)) (by omega) _) ?_; rintro v2 w2 ⟨F2, p2, c2, rfl, ho2, hf2, hb2⟩; have hs2 : w.heap.size + 2 ≤ w2.heap.size := (by have := hb2.size; simp at this; omega); have HRES := Lib.hid (show ∀ E, Below (w.heap.size + 1) w2 E → w.heap.size < E.heap.size ∧ (E.cell? ⟨w.heap.size, 0, none⟩ = some (.slice none 0 0) ∧ E.cell? ⟨w.heap.size, 1, none⟩ = some (.slice none 0 0)) ∧ E.frozen? ⟨w.heap.size, 0, none⟩ = false ∧ E.frozen? ⟨w.heap.size, 1, none⟩ = false from resOf hb2); have HB2 := Lib.hid ((show Below w.heap.size w _ by ((repeat (first | with_reducible assumption | with_reducible exact Below.refl _ _ | refine Below.setCell ?_ (by (first | omega | (simp; omega) | (simp; done) | fail "sml")) _ | refine Below.drew ?_ | refine Below.alloc ?_ (by (first | omega | (simp; omega) | (simp; done) | fail "sml")) _)); first | done | fail "chs")).trans (hb2.mono (by simp; omega))); have HF2 := Lib.hid (show ∀ y ∈ F2, w.heap.size + 2 ≤ y from fun y hy => by have := hf2 y hy; simp at this; omega); have HO2 := Lib.hid ho2; clear ho2 hf2 hb2)
  obtain ⟨W3, eW3⟩ : ∃ u, u = w2.alloc (.cells #[.slice p2 cs.length c2, .slice none 0 0] 33) := ⟨_, rfl⟩
  rw [← eW3]
  have hs3 : w2.heap.size < W3.heap.size := by rw [eW3]; simp
  have hb3 : Below w2.heap.size w2 W3 := by rw [eW3]; exact (Below.refl _ _).alloc (Nat.le_refl _) _
  have HT3 := Lib.hid (show TAcc cs (rs.take 0) w2.heap.size (w.heap.size + 1) (.slice p2 cs.length c2) (.slice none 0 0) W3 by
    have h2 := HO2.out.below hb3
    have hlt := HO2.out.lt
    rw [eW3] at h2 ⊢
    exact ⟨⟨by omega, by simp⟩, ⟨by simp [go_sem], by simp [go_sem]⟩, ⟨by simp [go_sem], by simp [go_sem]⟩, F2, [], h2, by simpa using Kd.OwB.nil kRow _ _ _, fun y hy => ⟨by have := HF2.out y hy; omega, by have := hlt y hy; omega⟩, by simp, by simp⟩)
  have HB3 := Lib.hid (HB2.out.trans (hb3.mono (by omega)))
  have HR3 := Lib.hid (show Below (w.heap.size + 1) w2 W3 from hb3.mono (by omega))
  obtain ⟨kb, ekb⟩ : ∃ k, k = w2.heap.size := ⟨_, rfl⟩
  rw [← ekb] at HT3 ⊢
  have hkb : w.heap.size + 2 ≤ kb := by omega
  clear eW3 hb3 HO2 HF2 ekb
  obtain ⟨⟨_, hkl⟩, ⟨x0, x1⟩, _, _⟩ := HT3.out
  go_wp2_with fail
  clear x0 x1
  go_loopw [6] (fun i wr => ∃ (k : Nat) (b : Value), k ≤ rs.length ∧ i = .int .i64 k ∧ RowKit.Hid (TAcc cs (rs.take k) kb (w.heap.size + 1) (.slice p2 cs.length c2) b wr) ∧ RowKit.Hid (Below (w.heap.size + 1) W3 wr)) (fun i _ => rs.length - (intOf i).toNat)
  case atStart => exact ⟨0, _, Nat.zero_le _, rfl, HT3, Lib.hid (Below.refl _ _)⟩
  case round =>
    obtain ⟨k, b, hk, rfl, HTA, HBW⟩ := hrel
    have hsz := HBW.out.size
    have HBA := Lib.hid (HB3.out.trans (HBW.out.mono (by omega)))
    obtain ⟨⟨_, hkl2⟩, ⟨x0, x1⟩, ⟨g0, g1⟩, _⟩ := HTA.out
    by_cases hlt : k < rs.length
    · obtain ⟨bb, off, q2, c3, rfl, hbb, d0, hin⟩ := kRow_get (HBR.out.to (HBA.out.mono hB) (Nat.le_refl _)) hlt
      have hsize := sumR_get rs k hlt
      have htk := Lib.hid (List.take_succ_eq_append_getElem hlt)
      obtain ⟨y, ey⟩ : ∃ y, y = rs[k] := ⟨_, rfl⟩
      rw [← ey] at d0 hin hsize htk
      have HIN := Lib.hid hin
      have hyl : y.length ≤ 1048576 := by omega
      have hkk : (k : Int) < (rs.length : Int) := by omega
      have hbr : bb < wr.heap.size := by have := HBA.out.size; omega
      have HTK := Lib.hid (show (rs.take k).length ≤ 1048576 by rw [List.length_take]; omega)
      obtain ⟨_, _, qb, cb, _, hbf⟩ := HTA.out.form
      rw [List.length_take, Nat.min_eq_left hk] at hbf
      subst hbf
      have hmy := hin.max
      unfold maxLen at hmy
      clear ey hin hsize x0
      go_upto_region 5 with fail
      refine wp_region_E (last := 11) (S := fun w' => w'.cell? ⟨kb, 1, none⟩ = some (.slice qb k cb) ∧ w'.cell? ⟨bb, off + k, none⟩ = some (.slice q2 y.length c3)) (by kernel_rfl) ?_ (fun hHeld => ?_)
      · exact ⟨x1, d0⟩
      have cW : Below wr.heap.size wr wr.drew := (Below.refl _ _).drew
      have HK := Lib.hid (fun (E : World) (hE : Below wr.heap.size wr E) => (⟨keepc hE hkl2 x1, keepc hE hbr d0⟩ : E.cell? ⟨kb, 1, none⟩ = some (.slice qb k cb) ∧ E.cell? ⟨bb, off + k, none⟩ = some (.slice q2 y.length c3)))
      have szW : wr.heap.size ≤ wr.drew.heap.size := Nat.le_refl _
      generalize wr.drew = W0 at cW hHeld szW ⊢
      (refine takeE (i := 0) (v := ?_) [] rfl (by kernel_rfl) (by kernel_rfl) (fun _ _ _ h => h) (Or.inl ⟨by kernel_rfl, ?_⟩) (by assumption) ?_; rotate_left; (focus (intro w hSw; (try dsimp only at hSw); go_simp; first | done | with_reducible rfl | fail "takeE")); (try simp only [Act.put, List.setIfInBounds_toArray, List.set_cons_zero, List.set_cons_succ]))
      (refine takeE (i := 1) (v := ?_) [] rfl (by kernel_rfl) (by kernel_rfl) (fun _ _ _ h => h) (Or.inl ⟨by kernel_rfl, ?_⟩) (by assumption) ?_; rotate_left; (focus (intro w hSw; (try dsimp only at hSw); go_simp; first | done | with_reducible rfl | fail "takeE")); (try simp only [Act.put, List.setIfInBounds_toArray, List.set_cons_zero, List.set_cons_succ]))
      (refine takeE (i := 3) (v := ?_) [] rfl (by kernel_rfl) (by kernel_rfl) (fun _ _ _ h => h) (Or.inl ⟨by kernel_rfl, ?_⟩) (by assumption) ?_; rotate_left; (focus (intro w hSw; (try dsimp only at hSw); go_simp; first | done | with_reducible rfl | fail "takeE")); (try simp only [Act.put, List.setIfInBounds_toArray, List.set_cons_zero, List.set_cons_succ]))
      (refine takeE (i := 4) (v := ?_) [] rfl (by kernel_rfl) (by kernel_rfl) (fun _ _ _ h => h) (Or.inl ⟨by kernel_rfl, ?_⟩) (by assumption) ?_; rotate_left; (focus (intro w hSw; (try dsimp only at hSw); go_simp; first | done | with_reducible rfl | fail "takeE")); (try simp only [Act.put, List.setIfInBounds_toArray, List.set_cons_zero, List.set_cons_succ]))
      (refine takeE (i := 5) (v := ?_) [] rfl (by kernel_rfl) (by kernel_rfl) (fun _ _ _ h => h) (Or.inl ⟨by kernel_rfl, ?_⟩) (by assumption) ?_; rotate_left; (focus (intro w hSw; (try dsimp only at hSw); go_simp; first | done | with_reducible rfl | fail "takeE")); (try simp only [Act.put, List.setIfInBounds_toArray, List.set_cons_zero, List.set_cons_succ]))
      (refine takeE (i := 6) (v := ?_) [] rfl (by kernel_rfl) (by kernel_rfl) (fun _ _ _ h => h) (Or.inl ⟨by kernel_rfl, ?_⟩) (by assumption) ?_; rotate_left; (focus (intro w hSw; (try dsimp only at hSw); go_simp; first | done | with_reducible rfl | fail "takeE")); (try simp only [Act.put, List.setIfInBounds_toArray, List.set_cons_zero, List.set_cons_succ]))
      refine oneE (i := 2) rfl (by kernel_rfl) (by kernel_rfl) (fun K hK => ?_)
      go_simp
      refine hK.out _ _ (HK.out _ (show Below wr.heap.size wr _ by ((repeat (first | with_reducible assumption | with_reducible exact Below.refl _ _ | refine Below.setCell ?_ (by (first | omega | (simp; omega) | (simp; done) | fail "sml")) _ | refine Below.drew ?_ | refine Below.alloc ?_ (by (first | omega | (simp; omega) | (simp; done) | fail "sml")) _)); first | done | fail "chs"))) (fun hHeld => ?_)
      clear hK K
      (try simp only [Act.put, List.setIfInBounds_toArray, List.set_cons_zero, List.set_cons_succ])
      refine oneE (i := 7) rfl (by kernel_rfl) (by kernel_rfl) (fun K hK => ?_)
      refine wp_app (.tmp 19) (.tmp 23) 23 (by rfl) _ _ (by rfl) (by rfl) _ (rowNone (OwnI.empty _ _) (HIN.out.below ((show Below wr.heap.size wr _ by ((repeat (first | with_reducible assumption | with_reducible exact Below.refl _ _ | refine Below.setCell ?_ (by (first | omega | (simp; omega) | (simp; done) | fail "sml")) _ | refine Below.drew ?_ | refine Below.alloc ?_ (by (first | omega | (simp; omega) | (simp; done) | fail "sml")) _)); first | done | fail "chs")).mono (by have := HBA.out.size; omega))) (by omega) _) ?_
      rintro v5 w5 ⟨F5, p5, c5, rfl, ho5, hf5, hb5⟩
      have k5 : Below wr.heap.size wr w5 := (show Below wr.heap.size wr _ by ((repeat (first | with_reducible assumption | with_reducible exact Below.refl _ _ | refine Below.setCell ?_ (by (first | omega | (simp; omega) | (simp; done) | fail "sml")) _ | refine Below.drew ?_ | refine Below.alloc ?_ (by (first | omega | (simp; omega) | (simp; done) | fail "sml")) _)); first | done | fail "chs")).trans (hb5.mono (by simp; omega))
      have hs5 := k5.size
      have HF5 := Lib.hid (show ∀ x ∈ F5, wr.heap.size ≤ x from fun x hx => by have := hf5 x hx; simp at this; omega)
      have HO5 := Lib.hid ho5
      clear ho5 hf5 hb5
      refine hK.out _ _ (HK.out _ k5) (fun hHeld => ?_)
      clear hK K
      (try simp only [Act.put, List.setIfInBounds_toArray, List.set_cons_zero, List.set_cons_succ])
      refine oneE (i := 8) rfl (by kernel_rfl) (by kernel_rfl) (fun K hK => ?_)
      go_simp
      refine hK.out _ _ (HK.out _ (show Below wr.heap.size wr _ by ((repeat (first | with_reducible assumption | with_reducible exact Below.refl _ _ | refine Below.setCell ?_ (by (first | omega | (simp; omega) | (simp; done) | fail "sml")) _ | refine Below.drew ?_ | refine Below.alloc ?_ (by (first | omega | (simp; omega) | (simp; done) | fail "sml")) _)); first | done | fail "chs"))) (fun hHeld => ?_)
      clear hK K
      (try simp only [Act.put, List.setIfInBounds_toArray, List.set_cons_zero, List.set_cons_succ])
      refine oneE (i := 9) rfl (by kernel_rfl) (by kernel_rfl) (fun K hK => ?_)
      have HAPP := HTA.out.app (E := w5.alloc (.cells #[.slice p5 y.length c5] 23)) (show Below wr.heap.size wr _ by ((repeat (first | with_reducible assumption | with_reducible exact Below.refl _ _ | refine Below.setCell ?_ (by (first | omega | (simp; omega) | (simp; done) | fail "sml")) _ | refine Below.drew ?_ | refine Below.alloc ?_ (by (first | omega | (simp; omega) | (simp; done) | fail "sml")) _)); first | done | fail "chs")) 31 y p5 c5 F5 w5.heap.size 1 (HO5.out.below ((Below.refl _ _).alloc (Nat.le_refl _) _)) HF5.out (by simp [go_sem]) HTK.out
      refine wp_app (.tmp 18) (.tmp 25) 31 (by rfl) _ _ (by rfl) (by rfl) _ HAPP ?_
      rintro v' w' ⟨⟨e0, e1, e2, e3⟩, hT6, hb6⟩
      have HT6 := Lib.hid (show TAcc cs (rs.take (k + 1)) kb (w.heap.size + 1) (.slice p2 cs.length c2) v' (w'.setCell ⟨kb, 1, none⟩ v') from by rw [htk.out]; exact hT6)
      have HB6 := Lib.hid (HBW.out.trans hb6)
      obtain ⟨_, _, q6, c6, _, hvf⟩ := HT6.out.form
      rw [List.length_take, Nat.min_eq_left (show k + 1 ≤ rs.length by omega)] at hvf
      subst hvf
      have HD6 := Lib.hid (show w'.cell? ⟨bb, off + k, none⟩ = some (.slice q2 y.length c3) by
        have h9 := keepc hb6 (show bb < w.heap.size + 1 by omega) d0
        rwa [set_far _ _ _ _ _ _ (by omega)] at h9)
      clear hT6 hb6 HAPP
      refine hK.out _ _ ⟨e1, HD6.out⟩ (fun hHeld => ?_)
      clear hK K
      (try simp only [Act.put, List.setIfInBounds_toArray, List.set_cons_zero, List.set_cons_succ])
      (refine takeE (i := 10) (v := ?_) [] rfl (by kernel_rfl) (by kernel_rfl) (fun _ _ _ h => h) (Or.inl ⟨by kernel_rfl, ?_⟩) (by assumption) ?_; rotate_left; (focus (intro w hSw; (try dsimp only at hSw); go_simp; first | done | with_reducible rfl | fail "takeE")); (try simp only [Act.put, List.setIfInBounds_toArray, List.set_cons_zero, List.set_cons_succ]))
      refine lastE rfl (by kernel_rfl) (by kernel_rfl) (fun K hK => ?_)
      go_simp
      refine hK.out _ _ ?_
      clear hK K
      refine doneE (by kernel_rfl) ?_ _
      go_wp2_with fail
      go_roundw
      case rel => exact ⟨k + 1, _, by omega, by go_num, HT6, HB6⟩
      case measure => simp [intOf]; omega
    · obtain rfl : k = rs.length := by omega
      have HTE := Lib.hid (show TAcc cs rs kb (w.heap.size + 1) (.slice p2 cs.length c2) b wr by have := HTA.out; rwa [List.take_length] at this)
      clear HTA
      obtain ⟨FT, hH, hFT⟩ := HTE.out.has
      have HH := Lib.hid hH
      have HFT := Lib.hid hFT
      obtain ⟨_, _, qb, cb, _, rfl⟩ := HTE.out.form
      obtain ⟨hr0, ⟨hr1, hr2⟩, hr3, hr4⟩ := HRES.out wr (HR3.out.trans HBW.out)
      clear hH hFT
      go_wp2_with fail
      exact bodyPost_ret (v := .agg #[.slice p2 cs.length c2, .slice qb rs.length cb]) (by simp [results, Try.results66, go_sem, hr1, hr2]) rfl ⟨_, FT, rfl, HH.out.chg (G := [w.heap.size]) (((Chg.refl _ _).setCell (by simp) _).setCell (by simp) _) (fun y hy => by have := (HFT.out y hy).1; simp; omega), fun y hy => by have := (HFT.out y hy).1; omega, (HBA.out.setCell (by simp) _).setCell (by simp) _⟩
end Go.Proofs.Ytfdkmngkpihpbaa
