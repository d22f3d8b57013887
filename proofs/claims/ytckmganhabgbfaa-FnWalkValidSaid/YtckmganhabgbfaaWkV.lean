/- WalkValid, on both sides. -/
import Derived.Test.YtckmganhabgbfaaHasE
import Derived.Test.YtckmganhabgbfaaWkB
import Derived.Test.YtckmganhabgbfaaSGValid
import Derived.Test.YtckmganhabgbfaaReg
import Derived.Test.YtckmganhabgbfaaFoll
import Derived.Deep.RegionHeld3
import Derived.Deep.DeepCutAuto
namespace Go.Proofs.Ytckmganhabgbfaa
open Go.RowKit

/-- An edge that is there, gone along from a to b in either direction. -/
def edgeB (e : Ed) (a b : Int) : Bool := (e.f == a && e.t == b) || (e.f == b && e.t == a)
def stepB (g : Gr) (x : Wk) (j : Nat) : Bool :=
  match x.es[j]?, x.ns[j]?, x.ns[j + 1]? with
  | some z, some a, some b => decide (0 ≤ z) && (match g.es[z.toNat]? with | some e => edgeB e a b | none => false)
  | _, _, _ => false
def stepsB (g : Gr) (x : Wk) : Bool := (List.range x.es.length).all (stepB g x)
def wkValid (g : Gr) (x : Wk) : Bool := gv g && (wkShape x && ((match x.ns[0]? with | some z => hn g.ns.length z | none => false) && stepsB g x))
theorem wkValid_of {g : Gr} {x : Wk} (h1 : gv g = true) (h2 : wkShape x = true) (h3 : 0 < x.ns.length) : wkValid g x = (hn g.ns.length x.ns[0] && stepsB g x) := by
  unfold wkValid; rw [h1, h2, List.getElem?_eq_getElem h3]; rfl
theorem stepsB_yes {g : Gr} {x : Wk} {k : Nat} (h : ∀ j, j < k → stepB g x j = true) (hk : x.es.length ≤ k) : stepsB g x = true := by
  unfold stepsB
  rw [List.all_eq_true]
  intro j hj
  exact h j (by have := List.mem_range.1 hj; omega)
theorem stepsB_no {g : Gr} {x : Wk} {k : Nat} (hk : k < x.es.length) (h : stepB g x k = false) : stepsB g x = false := by
  unfold stepsB
  rw [List.all_eq_false]
  exact ⟨k, List.mem_range.2 hk, by simp [h]⟩
theorem stepB_at {g : Gr} {x : Wk} {j : Nat} (h1 : j < x.es.length) (h2 : j + 1 < x.ns.length) : stepB g x j = (decide (0 ≤ x.es[j]) && (match g.es[x.es[j].toNat]? with | some e => edgeB e x.ns[j] x.ns[j + 1] | none => false)) := by
  unfold stepB
  rw [List.getElem?_eq_getElem h1, List.getElem?_eq_getElem (show j < x.ns.length by omega), List.getElem?_eq_getElem h2]

theorem edge_foll (e : Ed) (a b : Int) : edgeB e a b = (follB a 3 e && (follT a 3 e == b)) := by
  unfold edgeB follB follT
  by_cases h1 : e.f = a
  · by_cases h2 : e.t = b
    · simp [h1, h2]
    · have : ¬ (a = b ∧ e.t = a) := fun ⟨h3, h4⟩ => h2 (h4.trans h3)
      simp [h1, h2]
      intro h3 h4
      exact this ⟨h3, h4⟩
  · by_cases h3 : e.t = a
    · simp [h1, h3]
    · have p1 : (e.f == a) = false := by simpa using h1
      have p2 : (e.t == a) = false := by simpa using h3
      simp [p1, p2]

set_option maxRecDepth 100000 in
set_option maxHeartbeats 16000000 in
theorem walkValid_any (g : Gr) (x : Wk) (v v' : Value) (B : Nat) (w : World) (hg : g.At B w v) (hx : x.At B w v') (hB : B ≤ w.heap.size) (hok : g.Ok) (hn : x.need ≤ 1048576) :
    Calls Try.prog 24 #[v, v'] w fun e w' => e = .returned (.bool (wkValid g x)) ∧ Below w.heap.size w w' := by
  have HG := Lib.hid hg
  have HX := Lib.hid hx
  have HOK := Lib.hid hok
  have HN := Lib.hid hn
  obtain ⟨va, vb, rfl, ha, hb⟩ := hg
  obtain ⟨pa, ca, rfl⟩ := ha.form
  obtain ⟨pb, cb, rfl⟩ := hb.form
  obtain ⟨vc, vd, rfl, hc, hd⟩ := hx
  obtain ⟨p, cp, rfl⟩ := hc.form
  obtain ⟨q, cq, rfl⟩ := hd.form
  have hm1 := ha.max
  have hm2 := hb.max
  have hm3 := hc.max
  have hm4 := hd.max
  unfold maxLen at hm1 hm2 hm3 hm4
  have HE := Lib.hid hb
  have HNS := Lib.hid hc
  have HES := Lib.hid hd
  clear ha hb hc hd hok hn
  obtain ⟨W, eW⟩ : ∃ W, W = (w.alloc (.cells #[.slice pa g.ns.length ca, .slice pb g.es.length cb] 38)).alloc (.cells #[.slice p x.ns.length cp, .slice q x.es.length cq] 25) := ⟨_, rfl⟩
  have HV := Lib.hid (show Below w.heap.size w W by rw [eW]; exact two_more (Nat.le_refl _) _ _)
  have hs0 : w.heap.size + 2 ≤ W.heap.size := by rw [eW]; simp
  have HK := Lib.hid (show ∀ wk, Below (w.heap.size + 2) W wk → w.heap.size + 2 ≤ wk.heap.size ∧ wk.cell? ⟨w.heap.size, 0, none⟩ = some (.slice pa g.ns.length ca) ∧ wk.cell? ⟨w.heap.size, 1, none⟩ = some (.slice pb g.es.length cb) ∧ wk.cell? ⟨w.heap.size + 1, 0, none⟩ = some (.slice p x.ns.length cp) ∧ wk.cell? ⟨w.heap.size + 1, 1, none⟩ = some (.slice q x.es.length cq) from
    fun wk hk => by rw [eW] at hk; exact two_boxes hk)
  have HA := Lib.hid (Below.refl (w.heap.size + 2) W)
  have HGA := Lib.hid (show ∀ wk, Below (w.heap.size + 2) W wk → g.At B wk (.agg #[.slice pa g.ns.length ca, .slice pb g.es.length cb]) from fun wk hk => HG.out.below ((HV.out.mono hB).trans (hk.mono (by omega))))
  have HXA := Lib.hid (show ∀ wk, Below (w.heap.size + 2) W wk → x.At B wk (.agg #[.slice p x.ns.length cp, .slice q x.es.length cq]) from fun wk hk => HX.out.to ((HV.out.mono hB).trans (hk.mono (by omega))) (Nat.le_refl _))
  have rr0 := HA.out
  have EW := Lib.hid eW
  clear eW
  cases hgv : gv g with
  | false =>
    have HT := Lib.hid (show wkValid g x = false by unfold wkValid; rw [hgv]; rfl)
    have CG := Lib.hid (fun (E : World) (hE : Below (w.heap.size + 2) W E) => (graphValid_any g _ B E (HGA.out _ hE) (by have := hE.size; omega) HOK.out).mono (R' := fun en w' => en = .returned (.bool false) ∧ Below (w.heap.size + 2) W w') fun en w' ⟨he, hb⟩ => ⟨by rw [he, hgv], hE.trans (hb.mono (by have := hE.size; omega))⟩)
    clear hgv
    go_enter Try.func24, Try.ntmps24
    go_wp2_with fail
    rw [← EW.out]
    go_upto_region 1 with fail
    go_cut [25] (fun s wx => s = .bool true ∧ Below (w.heap.size + 2) W wx)
    case first =>
      refine wp_region_held_drew (S := fun w' => w'.cell? ⟨w.heap.size, 0, none⟩ = some (.slice pa g.ns.length ca) ∧ w'.cell? ⟨w.heap.size, 1, none⟩ = some (.slice pb g.es.length cb) ∧ w'.cell? ⟨w.heap.size + 1, 0, none⟩ = some (.slice p x.ns.length cp) ∧ w'.cell? ⟨w.heap.size + 1, 1, none⟩ = some (.slice q x.es.length cq)) (by kernel_rfl) ?_ (fun hHeld => ?_)
      · exact (HK.out _ (show Below (w.heap.size + 2) W _ by ((repeat (first | with_reducible assumption | with_reducible exact Below.refl _ _ | refine Below.setCell ?_ (by (first | omega | (simp; omega) | (simp; done) | fail "sml")) _ | refine Below.drew ?_ | refine Below.alloc ?_ (by (first | omega | (simp; omega) | (simp; done) | fail "sml")) _)); first | done | fail "chs"))).2
      (refine takeL (i := 0) (v := ?_) rfl (by kernel_rfl) (by kernel_rfl) (by kernel_rfl) (fun _ _ _ h => h) (Or.inl ⟨by kernel_rfl, ?_⟩) (by assumption) ?_; rotate_left; (focus (intro w hSw; (try dsimp only at hSw); go_simp; first | done | with_reducible rfl | fail "take")); (try simp only [Act.put, List.setIfInBounds_toArray, List.set_cons_zero, List.set_cons_succ]))
      (refine callL (i := 1) rfl (by kernel_rfl) (by kernel_rfl) (fun K hK => ?_); go_simp)
      go_at_call 43
      with_reducible refine (CG.out _ (by ((repeat (first | with_reducible assumption | with_reducible exact Below.refl _ _ | refine Below.setCell ?_ (by (first | omega | (simp; omega) | (simp; done) | fail "sml")) _ | refine Below.drew ?_ | refine Below.alloc ?_ (by (first | omega | (simp; omega) | (simp; done) | fail "sml")) _)); first | done | fail "chs"))).mono ?_
      rintro en wa ⟨rfl, hka⟩
      go_wp2_with fail
      refine hK.out _ _ ?_ (fun hHeld => ?_)
      · exact (HK.out _ (show Below (w.heap.size + 2) W _ by ((repeat (first | with_reducible assumption | with_reducible exact Below.refl _ _ | refine Below.setCell ?_ (by (first | omega | (simp; omega) | (simp; done) | fail "sml")) _ | refine Below.drew ?_ | refine Below.alloc ?_ (by (first | omega | (simp; omega) | (simp; done) | fail "sml")) _)); first | done | fail "chs"))).2
      clear hK K
      (try simp only [Act.put, List.setIfInBounds_toArray, List.set_cons_zero, List.set_cons_succ])
      (refine takeL (i := 2) (v := ?_) rfl (by kernel_rfl) (by kernel_rfl) (by kernel_rfl) (fun _ _ _ h => h) (Or.inl ⟨by kernel_rfl, ?_⟩) (by assumption) ?_; rotate_left; (focus (intro w hSw; (try dsimp only at hSw); go_simp; first | done | with_reducible rfl | fail "take")); (try simp only [Act.put, List.setIfInBounds_toArray, List.set_cons_zero, List.set_cons_succ]))
      (refine takeL (i := 3) (v := ?_) rfl (by kernel_rfl) (by kernel_rfl) (by kernel_rfl) (fun _ _ _ h => h) (Or.inl ⟨by kernel_rfl, ?_⟩) (by assumption) ?_; rotate_left; (focus (intro w hSw; (try dsimp only at hSw); go_simp; first | done | with_reducible rfl | fail "take")); (try simp only [Act.put, List.setIfInBounds_toArray, List.set_cons_zero, List.set_cons_succ]))
      (refine takeL (i := 4) (v := undef) rfl (by kernel_rfl) (by kernel_rfl) (by kernel_rfl) (fun _ _ _ h => h) (Or.inr ⟨by kernel_rfl, rfl⟩) (by assumption) ?_; (try simp only [Act.put, List.setIfInBounds_toArray, List.set_cons_zero, List.set_cons_succ]))
      (refine takeL (i := 5) (v := undef) rfl (by kernel_rfl) (by kernel_rfl) (by kernel_rfl) (fun _ _ _ h => h) (Or.inr ⟨by kernel_rfl, rfl⟩) (by assumption) ?_; (try simp only [Act.put, List.setIfInBounds_toArray, List.set_cons_zero, List.set_cons_succ]))
      (refine takeL (i := 6) (v := undef) rfl (by kernel_rfl) (by kernel_rfl) (by kernel_rfl) (fun _ _ _ h => h) (Or.inr ⟨by kernel_rfl, rfl⟩) (by assumption) ?_; (try simp only [Act.put, List.setIfInBounds_toArray, List.set_cons_zero, List.set_cons_succ]))
      (refine takeL (i := 7) (v := ?_) rfl (by kernel_rfl) (by kernel_rfl) (by kernel_rfl) (fun _ _ _ h => h) (Or.inl ⟨by kernel_rfl, ?_⟩) (by assumption) ?_; rotate_left; (focus (intro w hSw; (try dsimp only at hSw); go_simp; first | done | with_reducible rfl | fail "take")); (try simp only [Act.put, List.setIfInBounds_toArray, List.set_cons_zero, List.set_cons_succ]))
      (refine takeL (i := 8) (v := ?_) rfl (by kernel_rfl) (by kernel_rfl) (by kernel_rfl) (fun _ _ _ h => h) (Or.inl ⟨by kernel_rfl, ?_⟩) (by assumption) ?_; rotate_left; (focus (intro w hSw; (try dsimp only at hSw); go_simp; first | done | with_reducible rfl | fail "take")); (try simp only [Act.put, List.setIfInBounds_toArray, List.set_cons_zero, List.set_cons_succ]))
      (refine takeL (i := 9) (v := undef) rfl (by kernel_rfl) (by kernel_rfl) (by kernel_rfl) (fun _ _ _ h => h) (Or.inr ⟨by kernel_rfl, rfl⟩) (by assumption) ?_; (try simp only [Act.put, List.setIfInBounds_toArray, List.set_cons_zero, List.set_cons_succ]))
      (refine takeL (i := 10) (v := undef) rfl (by kernel_rfl) (by kernel_rfl) (by kernel_rfl) (fun _ _ _ h => h) (Or.inr ⟨by kernel_rfl, rfl⟩) (by assumption) ?_; (try simp only [Act.put, List.setIfInBounds_toArray, List.set_cons_zero, List.set_cons_succ]))
      (refine takeL (i := 11) (v := undef) rfl (by kernel_rfl) (by kernel_rfl) (by kernel_rfl) (fun _ _ _ h => h) (Or.inr ⟨by kernel_rfl, rfl⟩) (by assumption) ?_; (try simp only [Act.put, List.setIfInBounds_toArray, List.set_cons_zero, List.set_cons_succ]))
      (refine takeL (i := 12) (v := undef) rfl (by kernel_rfl) (by kernel_rfl) (by kernel_rfl) (fun _ _ _ h => h) (Or.inr ⟨by kernel_rfl, rfl⟩) (by assumption) ?_; (try simp only [Act.put, List.setIfInBounds_toArray, List.set_cons_zero, List.set_cons_succ]))
      (refine takeL (i := 13) (v := undef) rfl (by kernel_rfl) (by kernel_rfl) (by kernel_rfl) (fun _ _ _ h => h) (Or.inr ⟨by kernel_rfl, rfl⟩) (by assumption) ?_; (try simp only [Act.put, List.setIfInBounds_toArray, List.set_cons_zero, List.set_cons_succ]))
      (refine takeL (i := 14) (v := undef) rfl (by kernel_rfl) (by kernel_rfl) (by kernel_rfl) (fun _ _ _ h => h) (Or.inr ⟨by kernel_rfl, rfl⟩) (by assumption) ?_; (try simp only [Act.put, List.setIfInBounds_toArray, List.set_cons_zero, List.set_cons_succ]))
      (refine takeL (i := 15) (v := undef) rfl (by kernel_rfl) (by kernel_rfl) (by kernel_rfl) (fun _ _ _ h => h) (Or.inr ⟨by kernel_rfl, rfl⟩) (by assumption) ?_; (try simp only [Act.put, List.setIfInBounds_toArray, List.set_cons_zero, List.set_cons_succ]))
      (refine takeL (i := 16) (v := ?_) rfl (by kernel_rfl) (by kernel_rfl) (by kernel_rfl) (fun _ _ _ h => h) (Or.inl ⟨by kernel_rfl, ?_⟩) (by assumption) ?_; rotate_left; (focus (intro w hSw; (try dsimp only at hSw); go_simp; first | done | with_reducible rfl | fail "take")); (try simp only [Act.put, List.setIfInBounds_toArray, List.set_cons_zero, List.set_cons_succ]))
      refine wpAnyH_done (by kernel_rfl) ?_ _
      go_wp2_with fail
      go_meet
      exact ⟨rfl, by ((repeat (first | with_reducible assumption | with_reducible exact Below.refl _ _ | refine Below.setCell ?_ (by (first | omega | (simp; omega) | (simp; done) | fail "sml")) _ | refine Below.drew ?_ | refine Below.alloc ?_ (by (first | omega | (simp; omega) | (simp; done) | fail "sml")) _)); first | done | fail "chs")⟩
    case rest =>
      obtain ⟨rfl, hbx⟩ := hcut
      have HA := Lib.hid hbx
      clear hbx rr0
      go_wp2_with fail
      go_ret
      exact ⟨by rw [HT.out]; rfl, HV.out.trans (HA.out.mono (by omega))⟩
  | true =>
    have CG := Lib.hid (fun (E : World) (hE : Below (w.heap.size + 2) W E) => (graphValid_any g _ B E (HGA.out _ hE) (by have := hE.size; omega) HOK.out).mono (R' := fun en w' => en = .returned (.bool true) ∧ Below (w.heap.size + 2) W w') fun en w' ⟨he, hb⟩ => ⟨by rw [he, hgv], hE.trans (hb.mono (by have := hE.size; omega))⟩)
    cases hsh : wkShape x with
    | false =>
      have HT := Lib.hid (show wkValid g x = false by unfold wkValid; rw [hsh]; simp)
      have CS := Lib.hid (fun (E : World) (hE : Below (w.heap.size + 2) W E) => (hasShape_any x _ B E (HXA.out _ hE) HN.out).mono (R' := fun en w' => en = .returned (.bool false) ∧ Below (w.heap.size + 2) W w') fun en w' ⟨he, hb⟩ => ⟨by rw [he, hsh], hE.trans (hb.mono (by have := hE.size; omega))⟩)
      clear hgv hsh
      go_enter Try.func24, Try.ntmps24
      go_wp2_with fail
      rw [← EW.out]
      go_upto_region 1 with fail
      go_cut [25] (fun s wx => s = .bool true ∧ Below (w.heap.size + 2) W wx)
      case first =>
        refine wp_region_held_drew (S := fun w' => w'.cell? ⟨w.heap.size, 0, none⟩ = some (.slice pa g.ns.length ca) ∧ w'.cell? ⟨w.heap.size, 1, none⟩ = some (.slice pb g.es.length cb) ∧ w'.cell? ⟨w.heap.size + 1, 0, none⟩ = some (.slice p x.ns.length cp) ∧ w'.cell? ⟨w.heap.size + 1, 1, none⟩ = some (.slice q x.es.length cq)) (by kernel_rfl) ?_ (fun hHeld => ?_)
        · exact (HK.out _ (show Below (w.heap.size + 2) W _ by ((repeat (first | with_reducible assumption | with_reducible exact Below.refl _ _ | refine Below.setCell ?_ (by (first | omega | (simp; omega) | (simp; done) | fail "sml")) _ | refine Below.drew ?_ | refine Below.alloc ?_ (by (first | omega | (simp; omega) | (simp; done) | fail "sml")) _)); first | done | fail "chs"))).2
        (refine takeL (i := 0) (v := ?_) rfl (by kernel_rfl) (by kernel_rfl) (by kernel_rfl) (fun _ _ _ h => h) (Or.inl ⟨by kernel_rfl, ?_⟩) (by assumption) ?_; rotate_left; (focus (intro w hSw; (try dsimp only at hSw); go_simp; first | done | with_reducible rfl | fail "take")); (try simp only [Act.put, List.setIfInBounds_toArray, List.set_cons_zero, List.set_cons_succ]))
        (refine callL (i := 1) rfl (by kernel_rfl) (by kernel_rfl) (fun K hK => ?_); go_simp)
        go_at_call 43
        with_reducible refine (CG.out _ (by ((repeat (first | with_reducible assumption | with_reducible exact Below.refl _ _ | refine Below.setCell ?_ (by (first | omega | (simp; omega) | (simp; done) | fail "sml")) _ | refine Below.drew ?_ | refine Below.alloc ?_ (by (first | omega | (simp; omega) | (simp; done) | fail "sml")) _)); first | done | fail "chs"))).mono ?_
        rintro en wa ⟨rfl, hka⟩
        go_wp2_with fail
        refine hK.out _ _ ?_ (fun hHeld => ?_)
        · exact (HK.out _ (show Below (w.heap.size + 2) W _ by ((repeat (first | with_reducible assumption | with_reducible exact Below.refl _ _ | refine Below.setCell ?_ (by (first | omega | (simp; omega) | (simp; done) | fail "sml")) _ | refine Below.drew ?_ | refine Below.alloc ?_ (by (first | omega | (simp; omega) | (simp; done) | fail "sml")) _)); first | done | fail "chs"))).2
        clear hK K
        (try simp only [Act.put, List.setIfInBounds_toArray, List.set_cons_zero, List.set_cons_succ])
        (refine takeL (i := 2) (v := ?_) rfl (by kernel_rfl) (by kernel_rfl) (by kernel_rfl) (fun _ _ _ h => h) (Or.inl ⟨by kernel_rfl, ?_⟩) (by assumption) ?_; rotate_left; (focus (intro w hSw; (try dsimp only at hSw); go_simp; first | done | with_reducible rfl | fail "take")); (try simp only [Act.put, List.setIfInBounds_toArray, List.set_cons_zero, List.set_cons_succ]))
        (refine takeL (i := 3) (v := ?_) rfl (by kernel_rfl) (by kernel_rfl) (by kernel_rfl) (fun _ _ _ h => h) (Or.inl ⟨by kernel_rfl, ?_⟩) (by assumption) ?_; rotate_left; (focus (intro w hSw; (try dsimp only at hSw); go_simp; first | done | with_reducible rfl | fail "take")); (try simp only [Act.put, List.setIfInBounds_toArray, List.set_cons_zero, List.set_cons_succ]))
        (refine takeL (i := 4) (v := ?_) rfl (by kernel_rfl) (by kernel_rfl) (by kernel_rfl) (fun _ _ _ h => h) (Or.inl ⟨by kernel_rfl, ?_⟩) (by assumption) ?_; rotate_left; (focus (intro w hSw; (try dsimp only at hSw); go_simp; first | done | with_reducible rfl | fail "take")); (try simp only [Act.put, List.setIfInBounds_toArray, List.set_cons_zero, List.set_cons_succ]))
        (refine callL (i := 5) rfl (by kernel_rfl) (by kernel_rfl) (fun K hK => ?_); go_simp)
        go_at_call 50
        with_reducible refine (CS.out _ (by ((repeat (first | with_reducible assumption | with_reducible exact Below.refl _ _ | refine Below.setCell ?_ (by (first | omega | (simp; omega) | (simp; done) | fail "sml")) _ | refine Below.drew ?_ | refine Below.alloc ?_ (by (first | omega | (simp; omega) | (simp; done) | fail "sml")) _)); first | done | fail "chs"))).mono ?_
        rintro en wa ⟨rfl, hka⟩
        go_wp2_with fail
        refine hK.out _ _ ?_ (fun hHeld => ?_)
        · exact (HK.out _ (show Below (w.heap.size + 2) W _ by ((repeat (first | with_reducible assumption | with_reducible exact Below.refl _ _ | refine Below.setCell ?_ (by (first | omega | (simp; omega) | (simp; done) | fail "sml")) _ | refine Below.drew ?_ | refine Below.alloc ?_ (by (first | omega | (simp; omega) | (simp; done) | fail "sml")) _)); first | done | fail "chs"))).2
        clear hK K
        (try simp only [Act.put, List.setIfInBounds_toArray, List.set_cons_zero, List.set_cons_succ])
        (refine takeL (i := 6) (v := ?_) rfl (by kernel_rfl) (by kernel_rfl) (by kernel_rfl) (fun _ _ _ h => h) (Or.inl ⟨by kernel_rfl, ?_⟩) (by assumption) ?_; rotate_left; (focus (intro w hSw; (try dsimp only at hSw); go_simp; first | done | with_reducible rfl | fail "take")); (try simp only [Act.put, List.setIfInBounds_toArray, List.set_cons_zero, List.set_cons_succ]))
        (refine takeL (i := 7) (v := ?_) rfl (by kernel_rfl) (by kernel_rfl) (by kernel_rfl) (fun _ _ _ h => h) (Or.inl ⟨by kernel_rfl, ?_⟩) (by assumption) ?_; rotate_left; (focus (intro w hSw; (try dsimp only at hSw); go_simp; first | done | with_reducible rfl | fail "take")); (try simp only [Act.put, List.setIfInBounds_toArray, List.set_cons_zero, List.set_cons_succ]))
        (refine takeL (i := 8) (v := ?_) rfl (by kernel_rfl) (by kernel_rfl) (by kernel_rfl) (fun _ _ _ h => h) (Or.inl ⟨by kernel_rfl, ?_⟩) (by assumption) ?_; rotate_left; (focus (intro w hSw; (try dsimp only at hSw); go_simp; first | done | with_reducible rfl | fail "take")); (try simp only [Act.put, List.setIfInBounds_toArray, List.set_cons_zero, List.set_cons_succ]))
        (refine takeL (i := 9) (v := undef) rfl (by kernel_rfl) (by kernel_rfl) (by kernel_rfl) (fun _ _ _ h => h) (Or.inr ⟨by kernel_rfl, rfl⟩) (by assumption) ?_; (try simp only [Act.put, List.setIfInBounds_toArray, List.set_cons_zero, List.set_cons_succ]))
        (refine takeL (i := 10) (v := undef) rfl (by kernel_rfl) (by kernel_rfl) (by kernel_rfl) (fun _ _ _ h => h) (Or.inr ⟨by kernel_rfl, rfl⟩) (by assumption) ?_; (try simp only [Act.put, List.setIfInBounds_toArray, List.set_cons_zero, List.set_cons_succ]))
        (refine takeL (i := 11) (v := undef) rfl (by kernel_rfl) (by kernel_rfl) (by kernel_rfl) (fun _ _ _ h => h) (Or.inr ⟨by kernel_rfl, rfl⟩) (by assumption) ?_; (try simp only [Act.put, List.setIfInBounds_toArray, List.set_cons_zero, List.set_cons_succ]))
        (refine takeL (i := 12) (v := undef) rfl (by kernel_rfl) (by kernel_rfl) (by kernel_rfl) (fun _ _ _ h => h) (Or.inr ⟨by kernel_rfl, rfl⟩) (by assumption) ?_; (try simp only [Act.put, List.setIfInBounds_toArray, List.set_cons_zero, List.set_cons_succ]))
        (refine takeL (i := 13) (v := undef) rfl (by kernel_rfl) (by kernel_rfl) (by kernel_rfl) (fun _ _ _ h => h) (Or.inr ⟨by kernel_rfl, rfl⟩) (by assumption) ?_; (try simp only [Act.put, List.setIfInBounds_toArray, List.set_cons_zero, List.set_cons_succ]))
        (refine takeL (i := 14) (v := undef) rfl (by kernel_rfl) (by kernel_rfl) (by kernel_rfl) (fun _ _ _ h => h) (Or.inr ⟨by kernel_rfl, rfl⟩) (by assumption) ?_; (try simp only [Act.put, List.setIfInBounds_toArray, List.set_cons_zero, List.set_cons_succ]))
        (refine takeL (i := 15) (v := undef) rfl (by kernel_rfl) (by kernel_rfl) (by kernel_rfl) (fun _ _ _ h => h) (Or.inr ⟨by kernel_rfl, rfl⟩) (by assumption) ?_; (try simp only [Act.put, List.setIfInBounds_toArray, List.set_cons_zero, List.set_cons_succ]))
        (refine takeL (i := 16) (v := ?_) rfl (by kernel_rfl) (by kernel_rfl) (by kernel_rfl) (fun _ _ _ h => h) (Or.inl ⟨by kernel_rfl, ?_⟩) (by assumption) ?_; rotate_left; (focus (intro w hSw; (try dsimp only at hSw); go_simp; first | done | with_reducible rfl | fail "take")); (try simp only [Act.put, List.setIfInBounds_toArray, List.set_cons_zero, List.set_cons_succ]))
        refine wpAnyH_done (by kernel_rfl) ?_ _
        go_wp2_with fail
        go_meet
        exact ⟨rfl, by ((repeat (first | with_reducible assumption | with_reducible exact Below.refl _ _ | refine Below.setCell ?_ (by (first | omega | (simp; omega) | (simp; done) | fail "sml")) _ | refine Below.drew ?_ | refine Below.alloc ?_ (by (first | omega | (simp; omega) | (simp; done) | fail "sml")) _)); first | done | fail "chs")⟩
      case rest =>
        obtain ⟨rfl, hbx⟩ := hcut
        have HA := Lib.hid hbx
        clear hbx rr0
        go_wp2_with fail
        go_ret
        exact ⟨by rw [HT.out]; rfl, HV.out.trans (HA.out.mono (by omega))⟩
    | true =>
      have CS := Lib.hid (fun (E : World) (hE : Below (w.heap.size + 2) W E) => (hasShape_any x _ B E (HXA.out _ hE) HN.out).mono (R' := fun en w' => en = .returned (.bool true) ∧ Below (w.heap.size + 2) W w') fun en w' ⟨he, hb⟩ => ⟨by rw [he, hsh], hE.trans (hb.mono (by have := hE.size; omega))⟩)
      have l1a : x.es.length < x.ns.length := by have := (wkShape_iff.1 hsh).1; omega
      have l1b : x.ns.length ≤ x.es.length + 1 := by have := (wkShape_iff.1 hsh).1; omega
      have l2 := (wkShape_iff.1 hsh).2
      obtain ⟨b0, o0, rfl, hb0, c0⟩ := HNS.out.it (k := 0) (by omega)
      rw [Nat.add_zero] at c0
      have hg0 : (0 : Int) < (x.ns.length : Int) := by omega
      have hg1 : 0 < x.ns.length := by omega
      have HC0 := Lib.hid (show ∀ wk, Below (w.heap.size + 2) W wk → wk.cell? ⟨b0, o0, none⟩ = some (.int .i64 (x.ns[0]'(by omega))) from fun wk hk => keepc ((HV.out.mono hB).trans (hk.mono (by omega))) hb0 c0)
      have HVD := Lib.hid (wkValid_of hgv hsh (by omega))
      obtain ⟨z0, ez⟩ : ∃ z, z = x.ns[0]'(by omega) := ⟨_, rfl⟩
      rw [← ez] at HC0 HVD
      clear ez c0
      cases hhn : hn g.ns.length z0 with
      | false =>
        have HT := Lib.hid (show wkValid g x = false by rw [HVD.out, hhn]; rfl)
        have CH := Lib.hid (fun (E : World) (hE : Below (w.heap.size + 2) W E) => (hasNode_any g _ z0 B E (HGA.out _ hE)).mono (R' := fun en w' => en = .returned (.bool false) ∧ Below (w.heap.size + 2) W w') fun en w' ⟨he, hb⟩ => ⟨by rw [he, hhn], hE.trans (hb.mono (by have := hE.size; omega))⟩)
        clear hgv hsh hhn
        go_enter Try.func24, Try.ntmps24
        go_wp2_with fail
        rw [← EW.out]
        go_upto_region 1 with fail
        go_cut [25] (fun s wx => s = .bool true ∧ Below (w.heap.size + 2) W wx)
        case first =>
          refine wp_region_held_drew (S := fun w' => w'.cell? ⟨w.heap.size, 0, none⟩ = some (.slice pa g.ns.length ca) ∧ w'.cell? ⟨w.heap.size, 1, none⟩ = some (.slice pb g.es.length cb) ∧ w'.cell? ⟨w.heap.size + 1, 0, none⟩ = some (.slice (some ⟨b0, o0, none⟩) x.ns.length cp) ∧ w'.cell? ⟨w.heap.size + 1, 1, none⟩ = some (.slice q x.es.length cq) ∧ w'.cell? ⟨b0, o0, none⟩ = some (.int .i64 z0)) (by kernel_rfl) ?_ (fun hHeld => ?_)
          · exact (fun hk => ⟨(HK.out _ hk).2.1, (HK.out _ hk).2.2.1, (HK.out _ hk).2.2.2.1, (HK.out _ hk).2.2.2.2, HC0.out _ hk⟩) (show Below (w.heap.size + 2) W _ by ((repeat (first | with_reducible assumption | with_reducible exact Below.refl _ _ | refine Below.setCell ?_ (by (first | omega | (simp; omega) | (simp; done) | fail "sml")) _ | refine Below.drew ?_ | refine Below.alloc ?_ (by (first | omega | (simp; omega) | (simp; done) | fail "sml")) _)); first | done | fail "chs"))
          (refine takeL (i := 0) (v := ?_) rfl (by kernel_rfl) (by kernel_rfl) (by kernel_rfl) (fun _ _ _ h => h) (Or.inl ⟨by kernel_rfl, ?_⟩) (by assumption) ?_; rotate_left; (focus (intro w hSw; (try dsimp only at hSw); go_simp; first | done | with_reducible rfl | fail "take")); (try simp only [Act.put, List.setIfInBounds_toArray, List.set_cons_zero, List.set_cons_succ]))
          (refine callL (i := 1) rfl (by kernel_rfl) (by kernel_rfl) (fun K hK => ?_); go_simp)
          go_at_call 43
          with_reducible refine (CG.out _ (by ((repeat (first | with_reducible assumption | with_reducible exact Below.refl _ _ | refine Below.setCell ?_ (by (first | omega | (simp; omega) | (simp; done) | fail "sml")) _ | refine Below.drew ?_ | refine Below.alloc ?_ (by (first | omega | (simp; omega) | (simp; done) | fail "sml")) _)); first | done | fail "chs"))).mono ?_
          rintro en wa ⟨rfl, hka⟩
          go_wp2_with fail
          refine hK.out _ _ ?_ (fun hHeld => ?_)
          · exact (fun hk => ⟨(HK.out _ hk).2.1, (HK.out _ hk).2.2.1, (HK.out _ hk).2.2.2.1, (HK.out _ hk).2.2.2.2, HC0.out _ hk⟩) (show Below (w.heap.size + 2) W _ by ((repeat (first | with_reducible assumption | with_reducible exact Below.refl _ _ | refine Below.setCell ?_ (by (first | omega | (simp; omega) | (simp; done) | fail "sml")) _ | refine Below.drew ?_ | refine Below.alloc ?_ (by (first | omega | (simp; omega) | (simp; done) | fail "sml")) _)); first | done | fail "chs"))
          clear hK K
          (try simp only [Act.put, List.setIfInBounds_toArray, List.set_cons_zero, List.set_cons_succ])
          (refine takeL (i := 2) (v := ?_) rfl (by kernel_rfl) (by kernel_rfl) (by kernel_rfl) (fun _ _ _ h => h) (Or.inl ⟨by kernel_rfl, ?_⟩) (by assumption) ?_; rotate_left; (focus (intro w hSw; (try dsimp only at hSw); go_simp; first | done | with_reducible rfl | fail "take")); (try simp only [Act.put, List.setIfInBounds_toArray, List.set_cons_zero, List.set_cons_succ]))
          (refine takeL (i := 3) (v := ?_) rfl (by kernel_rfl) (by kernel_rfl) (by kernel_rfl) (fun _ _ _ h => h) (Or.inl ⟨by kernel_rfl, ?_⟩) (by assumption) ?_; rotate_left; (focus (intro w hSw; (try dsimp only at hSw); go_simp; first | done | with_reducible rfl | fail "take")); (try simp only [Act.put, List.setIfInBounds_toArray, List.set_cons_zero, List.set_cons_succ]))
          (refine takeL (i := 4) (v := ?_) rfl (by kernel_rfl) (by kernel_rfl) (by kernel_rfl) (fun _ _ _ h => h) (Or.inl ⟨by kernel_rfl, ?_⟩) (by assumption) ?_; rotate_left; (focus (intro w hSw; (try dsimp only at hSw); go_simp; first | done | with_reducible rfl | fail "take")); (try simp only [Act.put, List.setIfInBounds_toArray, List.set_cons_zero, List.set_cons_succ]))
          (refine callL (i := 5) rfl (by kernel_rfl) (by kernel_rfl) (fun K hK => ?_); go_simp)
          go_at_call 50
          with_reducible refine (CS.out _ (by ((repeat (first | with_reducible assumption | with_reducible exact Below.refl _ _ | refine Below.setCell ?_ (by (first | omega | (simp; omega) | (simp; done) | fail "sml")) _ | refine Below.drew ?_ | refine Below.alloc ?_ (by (first | omega | (simp; omega) | (simp; done) | fail "sml")) _)); first | done | fail "chs"))).mono ?_
          rintro en wa ⟨rfl, hka⟩
          go_wp2_with fail
          refine hK.out _ _ ?_ (fun hHeld => ?_)
          · exact (fun hk => ⟨(HK.out _ hk).2.1, (HK.out _ hk).2.2.1, (HK.out _ hk).2.2.2.1, (HK.out _ hk).2.2.2.2, HC0.out _ hk⟩) (show Below (w.heap.size + 2) W _ by ((repeat (first | with_reducible assumption | with_reducible exact Below.refl _ _ | refine Below.setCell ?_ (by (first | omega | (simp; omega) | (simp; done) | fail "sml")) _ | refine Below.drew ?_ | refine Below.alloc ?_ (by (first | omega | (simp; omega) | (simp; done) | fail "sml")) _)); first | done | fail "chs"))
          clear hK K
          (try simp only [Act.put, List.setIfInBounds_toArray, List.set_cons_zero, List.set_cons_succ])
          (refine takeL (i := 6) (v := ?_) rfl (by kernel_rfl) (by kernel_rfl) (by kernel_rfl) (fun _ _ _ h => h) (Or.inl ⟨by kernel_rfl, ?_⟩) (by assumption) ?_; rotate_left; (focus (intro w hSw; (try dsimp only at hSw); go_simp; first | done | with_reducible rfl | fail "take")); (try simp only [Act.put, List.setIfInBounds_toArray, List.set_cons_zero, List.set_cons_succ]))
          (refine takeL (i := 7) (v := ?_) rfl (by kernel_rfl) (by kernel_rfl) (by kernel_rfl) (fun _ _ _ h => h) (Or.inl ⟨by kernel_rfl, ?_⟩) (by assumption) ?_; rotate_left; (focus (intro w hSw; (try dsimp only at hSw); go_simp; first | done | with_reducible rfl | fail "take")); (try simp only [Act.put, List.setIfInBounds_toArray, List.set_cons_zero, List.set_cons_succ]))
          (refine takeL (i := 8) (v := ?_) rfl (by kernel_rfl) (by kernel_rfl) (by kernel_rfl) (fun _ _ _ h => h) (Or.inl ⟨by kernel_rfl, ?_⟩) (by assumption) ?_; rotate_left; (focus (intro w hSw; (try dsimp only at hSw); go_simp; first | done | with_reducible rfl | fail "take")); (try simp only [Act.put, List.setIfInBounds_toArray, List.set_cons_zero, List.set_cons_succ]))
          (refine takeL (i := 9) (v := ?_) rfl (by kernel_rfl) (by kernel_rfl) (by kernel_rfl) (fun _ _ _ h => h) (Or.inl ⟨by kernel_rfl, ?_⟩) (by assumption) ?_; rotate_left; (focus (intro w hSw; (try dsimp only at hSw); go_simp; first | done | with_reducible rfl | fail "take")); (try simp only [Act.put, List.setIfInBounds_toArray, List.set_cons_zero, List.set_cons_succ]))
          (refine takeL (i := 10) (v := ?_) rfl (by kernel_rfl) (by kernel_rfl) (by kernel_rfl) (fun _ _ _ h => h) (Or.inl ⟨by kernel_rfl, ?_⟩) (by assumption) ?_; rotate_left; (focus (intro w hSw; (try dsimp only at hSw); go_simp; first | done | with_reducible rfl | fail "take")); (try simp only [Act.put, List.setIfInBounds_toArray, List.set_cons_zero, List.set_cons_succ]))
          (refine takeL (i := 11) (v := ?_) rfl (by kernel_rfl) (by kernel_rfl) (by kernel_rfl) (fun _ _ _ h => h) (Or.inl ⟨by kernel_rfl, ?_⟩) (by assumption) ?_; rotate_left; (focus (intro w hSw; (try dsimp only at hSw); go_simp; first | done | with_reducible rfl | fail "take")); (try simp only [Act.put, List.setIfInBounds_toArray, List.set_cons_zero, List.set_cons_succ]))
          (refine takeL (i := 12) (v := ?_) rfl (by kernel_rfl) (by kernel_rfl) (by kernel_rfl) (fun _ _ _ h => h) (Or.inl ⟨by kernel_rfl, ?_⟩) (by assumption) ?_; rotate_left; (focus (intro w hSw; (try dsimp only at hSw); go_simp; first | done | with_reducible rfl | fail "take")); (try simp only [Act.put, List.setIfInBounds_toArray, List.set_cons_zero, List.set_cons_succ]))
          (refine takeL (i := 13) (v := ?_) rfl (by kernel_rfl) (by kernel_rfl) (by kernel_rfl) (fun _ _ _ h => h) (Or.inl ⟨by kernel_rfl, ?_⟩) (by assumption) ?_; rotate_left; (focus (intro w hSw; (try dsimp only at hSw); go_simp; first | done | with_reducible rfl | fail "take")); (try simp only [Act.put, List.setIfInBounds_toArray, List.set_cons_zero, List.set_cons_succ]))
          (refine callL (i := 14) rfl (by kernel_rfl) (by kernel_rfl) (fun K hK => ?_); go_simp)
          go_at_call 60
          with_reducible refine (CH.out _ (by ((repeat (first | with_reducible assumption | with_reducible exact Below.refl _ _ | refine Below.setCell ?_ (by (first | omega | (simp; omega) | (simp; done) | fail "sml")) _ | refine Below.drew ?_ | refine Below.alloc ?_ (by (first | omega | (simp; omega) | (simp; done) | fail "sml")) _)); first | done | fail "chs"))).mono ?_
          rintro en wa ⟨rfl, hka⟩
          go_wp2_with fail
          refine hK.out _ _ ?_ (fun hHeld => ?_)
          · exact (fun hk => ⟨(HK.out _ hk).2.1, (HK.out _ hk).2.2.1, (HK.out _ hk).2.2.2.1, (HK.out _ hk).2.2.2.2, HC0.out _ hk⟩) (show Below (w.heap.size + 2) W _ by ((repeat (first | with_reducible assumption | with_reducible exact Below.refl _ _ | refine Below.setCell ?_ (by (first | omega | (simp; omega) | (simp; done) | fail "sml")) _ | refine Below.drew ?_ | refine Below.alloc ?_ (by (first | omega | (simp; omega) | (simp; done) | fail "sml")) _)); first | done | fail "chs"))
          clear hK K
          (try simp only [Act.put, List.setIfInBounds_toArray, List.set_cons_zero, List.set_cons_succ])
          (refine takeL (i := 15) (v := ?_) rfl (by kernel_rfl) (by kernel_rfl) (by kernel_rfl) (fun _ _ _ h => h) (Or.inl ⟨by kernel_rfl, ?_⟩) (by assumption) ?_; rotate_left; (focus (intro w hSw; (try dsimp only at hSw); go_simp; first | done | with_reducible rfl | fail "take")); (try simp only [Act.put, List.setIfInBounds_toArray, List.set_cons_zero, List.set_cons_succ]))
          (refine takeL (i := 16) (v := ?_) rfl (by kernel_rfl) (by kernel_rfl) (by kernel_rfl) (fun _ _ _ h => h) (Or.inl ⟨by kernel_rfl, ?_⟩) (by assumption) ?_; rotate_left; (focus (intro w hSw; (try dsimp only at hSw); go_simp; first | done | with_reducible rfl | fail "take")); (try simp only [Act.put, List.setIfInBounds_toArray, List.set_cons_zero, List.set_cons_succ]))
          refine wpAnyH_done (by kernel_rfl) ?_ _
          go_wp2_with fail
          go_meet
          exact ⟨rfl, by ((repeat (first | with_reducible assumption | with_reducible exact Below.refl _ _ | refine Below.setCell ?_ (by (first | omega | (simp; omega) | (simp; done) | fail "sml")) _ | refine Below.drew ?_ | refine Below.alloc ?_ (by (first | omega | (simp; omega) | (simp; done) | fail "sml")) _)); first | done | fail "chs")⟩
        case rest =>
          obtain ⟨rfl, hbx⟩ := hcut
          have HA := Lib.hid hbx
          clear hbx rr0
          go_wp2_with fail
          go_ret
          exact ⟨by rw [HT.out]; rfl, HV.out.trans (HA.out.mono (by omega))⟩
      | true =>
        have HT0 := Lib.hid (show wkValid g x = stepsB g x by rw [HVD.out, hhn]; rfl)
        have CH := Lib.hid (fun (E : World) (hE : Below (w.heap.size + 2) W E) => (hasNode_any g _ z0 B E (HGA.out _ hE)).mono (R' := fun en w' => en = .returned (.bool true) ∧ Below (w.heap.size + 2) W w') fun en w' ⟨he, hb⟩ => ⟨by rw [he, hhn], hE.trans (hb.mono (by have := hE.size; omega))⟩)
        have HGV := Lib.hid hgv
        clear hgv hsh hhn
        go_enter Try.func24, Try.ntmps24
        go_wp2_with fail
        rw [← EW.out]
        go_upto_region 1 with fail
        go_cut [25] (fun s wx => s = .bool false ∧ Below (w.heap.size + 2) W wx)
        case first =>
          refine wp_region_held_drew (S := fun w' => w'.cell? ⟨w.heap.size, 0, none⟩ = some (.slice pa g.ns.length ca) ∧ w'.cell? ⟨w.heap.size, 1, none⟩ = some (.slice pb g.es.length cb) ∧ w'.cell? ⟨w.heap.size + 1, 0, none⟩ = some (.slice (some ⟨b0, o0, none⟩) x.ns.length cp) ∧ w'.cell? ⟨w.heap.size + 1, 1, none⟩ = some (.slice q x.es.length cq) ∧ w'.cell? ⟨b0, o0, none⟩ = some (.int .i64 z0)) (by kernel_rfl) ?_ (fun hHeld => ?_)
          · exact (fun hk => ⟨(HK.out _ hk).2.1, (HK.out _ hk).2.2.1, (HK.out _ hk).2.2.2.1, (HK.out _ hk).2.2.2.2, HC0.out _ hk⟩) (show Below (w.heap.size + 2) W _ by ((repeat (first | with_reducible assumption | with_reducible exact Below.refl _ _ | refine Below.setCell ?_ (by (first | omega | (simp; omega) | (simp; done) | fail "sml")) _ | refine Below.drew ?_ | refine Below.alloc ?_ (by (first | omega | (simp; omega) | (simp; done) | fail "sml")) _)); first | done | fail "chs"))
          (refine takeL (i := 0) (v := ?_) rfl (by kernel_rfl) (by kernel_rfl) (by kernel_rfl) (fun _ _ _ h => h) (Or.inl ⟨by kernel_rfl, ?_⟩) (by assumption) ?_; rotate_left; (focus (intro w hSw; (try dsimp only at hSw); go_simp; first | done | with_reducible rfl | fail "take")); (try simp only [Act.put, List.setIfInBounds_toArray, List.set_cons_zero, List.set_cons_succ]))
          (refine callL (i := 1) rfl (by kernel_rfl) (by kernel_rfl) (fun K hK => ?_); go_simp)
          go_at_call 43
          with_reducible refine (CG.out _ (by ((repeat (first | with_reducible assumption | with_reducible exact Below.refl _ _ | refine Below.setCell ?_ (by (first | omega | (simp; omega) | (simp; done) | fail "sml")) _ | refine Below.drew ?_ | refine Below.alloc ?_ (by (first | omega | (simp; omega) | (simp; done) | fail "sml")) _)); first | done | fail "chs"))).mono ?_
          rintro en wa ⟨rfl, hka⟩
          go_wp2_with fail
          refine hK.out _ _ ?_ (fun hHeld => ?_)
          · exact (fun hk => ⟨(HK.out _ hk).2.1, (HK.out _ hk).2.2.1, (HK.out _ hk).2.2.2.1, (HK.out _ hk).2.2.2.2, HC0.out _ hk⟩) (show Below (w.heap.size + 2) W _ by ((repeat (first | with_reducible assumption | with_reducible exact Below.refl _ _ | refine Below.setCell ?_ (by (first | omega | (simp; omega) | (simp; done) | fail "sml")) _ | refine Below.drew ?_ | refine Below.alloc ?_ (by (first | omega | (simp; omega) | (simp; done) | fail "sml")) _)); first | done | fail "chs"))
          clear hK K
          (try simp only [Act.put, List.setIfInBounds_toArray, List.set_cons_zero, List.set_cons_succ])
          (refine takeL (i := 2) (v := ?_) rfl (by kernel_rfl) (by kernel_rfl) (by kernel_rfl) (fun _ _ _ h => h) (Or.inl ⟨by kernel_rfl, ?_⟩) (by assumption) ?_; rotate_left; (focus (intro w hSw; (try dsimp only at hSw); go_simp; first | done | with_reducible rfl | fail "take")); (try simp only [Act.put, List.setIfInBounds_toArray, List.set_cons_zero, List.set_cons_succ]))
          (refine takeL (i := 3) (v := ?_) rfl (by kernel_rfl) (by kernel_rfl) (by kernel_rfl) (fun _ _ _ h => h) (Or.inl ⟨by kernel_rfl, ?_⟩) (by assumption) ?_; rotate_left; (focus (intro w hSw; (try dsimp only at hSw); go_simp; first | done | with_reducible rfl | fail "take")); (try simp only [Act.put, List.setIfInBounds_toArray, List.set_cons_zero, List.set_cons_succ]))
          (refine takeL (i := 4) (v := ?_) rfl (by kernel_rfl) (by kernel_rfl) (by kernel_rfl) (fun _ _ _ h => h) (Or.inl ⟨by kernel_rfl, ?_⟩) (by assumption) ?_; rotate_left; (focus (intro w hSw; (try dsimp only at hSw); go_simp; first | done | with_reducible rfl | fail "take")); (try simp only [Act.put, List.setIfInBounds_toArray, List.set_cons_zero, List.set_cons_succ]))
          (refine callL (i := 5) rfl (by kernel_rfl) (by kernel_rfl) (fun K hK => ?_); go_simp)
          go_at_call 50
          with_reducible refine (CS.out _ (by ((repeat (first | with_reducible assumption | with_reducible exact Below.refl _ _ | refine Below.setCell ?_ (by (first | omega | (simp; omega) | (simp; done) | fail "sml")) _ | refine Below.drew ?_ | refine Below.alloc ?_ (by (first | omega | (simp; omega) | (simp; done) | fail "sml")) _)); first | done | fail "chs"))).mono ?_
          rintro en wa ⟨rfl, hka⟩
          go_wp2_with fail
          refine hK.out _ _ ?_ (fun hHeld => ?_)
          · exact (fun hk => ⟨(HK.out _ hk).2.1, (HK.out _ hk).2.2.1, (HK.out _ hk).2.2.2.1, (HK.out _ hk).2.2.2.2, HC0.out _ hk⟩) (show Below (w.heap.size + 2) W _ by ((repeat (first | with_reducible assumption | with_reducible exact Below.refl _ _ | refine Below.setCell ?_ (by (first | omega | (simp; omega) | (simp; done) | fail "sml")) _ | refine Below.drew ?_ | refine Below.alloc ?_ (by (first | omega | (simp; omega) | (simp; done) | fail "sml")) _)); first | done | fail "chs"))
          clear hK K
          (try simp only [Act.put, List.setIfInBounds_toArray, List.set_cons_zero, List.set_cons_succ])
          (refine takeL (i := 6) (v := ?_) rfl (by kernel_rfl) (by kernel_rfl) (by kernel_rfl) (fun _ _ _ h => h) (Or.inl ⟨by kernel_rfl, ?_⟩) (by assumption) ?_; rotate_left; (focus (intro w hSw; (try dsimp only at hSw); go_simp; first | done | with_reducible rfl | fail "take")); (try simp only [Act.put, List.setIfInBounds_toArray, List.set_cons_zero, List.set_cons_succ]))
          (refine takeL (i := 7) (v := ?_) rfl (by kernel_rfl) (by kernel_rfl) (by kernel_rfl) (fun _ _ _ h => h) (Or.inl ⟨by kernel_rfl, ?_⟩) (by assumption) ?_; rotate_left; (focus (intro w hSw; (try dsimp only at hSw); go_simp; first | done | with_reducible rfl | fail "take")); (try simp only [Act.put, List.setIfInBounds_toArray, List.set_cons_zero, List.set_cons_succ]))
          (refine takeL (i := 8) (v := ?_) rfl (by kernel_rfl) (by kernel_rfl) (by kernel_rfl) (fun _ _ _ h => h) (Or.inl ⟨by kernel_rfl, ?_⟩) (by assumption) ?_; rotate_left; (focus (intro w hSw; (try dsimp only at hSw); go_simp; first | done | with_reducible rfl | fail "take")); (try simp only [Act.put, List.setIfInBounds_toArray, List.set_cons_zero, List.set_cons_succ]))
          (refine takeL (i := 9) (v := ?_) rfl (by kernel_rfl) (by kernel_rfl) (by kernel_rfl) (fun _ _ _ h => h) (Or.inl ⟨by kernel_rfl, ?_⟩) (by assumption) ?_; rotate_left; (focus (intro w hSw; (try dsimp only at hSw); go_simp; first | done | with_reducible rfl | fail "take")); (try simp only [Act.put, List.setIfInBounds_toArray, List.set_cons_zero, List.set_cons_succ]))
          (refine takeL (i := 10) (v := ?_) rfl (by kernel_rfl) (by kernel_rfl) (by kernel_rfl) (fun _ _ _ h => h) (Or.inl ⟨by kernel_rfl, ?_⟩) (by assumption) ?_; rotate_left; (focus (intro w hSw; (try dsimp only at hSw); go_simp; first | done | with_reducible rfl | fail "take")); (try simp only [Act.put, List.setIfInBounds_toArray, List.set_cons_zero, List.set_cons_succ]))
          (refine takeL (i := 11) (v := ?_) rfl (by kernel_rfl) (by kernel_rfl) (by kernel_rfl) (fun _ _ _ h => h) (Or.inl ⟨by kernel_rfl, ?_⟩) (by assumption) ?_; rotate_left; (focus (intro w hSw; (try dsimp only at hSw); go_simp; first | done | with_reducible rfl | fail "take")); (try simp only [Act.put, List.setIfInBounds_toArray, List.set_cons_zero, List.set_cons_succ]))
          (refine takeL (i := 12) (v := ?_) rfl (by kernel_rfl) (by kernel_rfl) (by kernel_rfl) (fun _ _ _ h => h) (Or.inl ⟨by kernel_rfl, ?_⟩) (by assumption) ?_; rotate_left; (focus (intro w hSw; (try dsimp only at hSw); go_simp; first | done | with_reducible rfl | fail "take")); (try simp only [Act.put, List.setIfInBounds_toArray, List.set_cons_zero, List.set_cons_succ]))
          (refine takeL (i := 13) (v := ?_) rfl (by kernel_rfl) (by kernel_rfl) (by kernel_rfl) (fun _ _ _ h => h) (Or.inl ⟨by kernel_rfl, ?_⟩) (by assumption) ?_; rotate_left; (focus (intro w hSw; (try dsimp only at hSw); go_simp; first | done | with_reducible rfl | fail "take")); (try simp only [Act.put, List.setIfInBounds_toArray, List.set_cons_zero, List.set_cons_succ]))
          (refine callL (i := 14) rfl (by kernel_rfl) (by kernel_rfl) (fun K hK => ?_); go_simp)
          go_at_call 60
          with_reducible refine (CH.out _ (by ((repeat (first | with_reducible assumption | with_reducible exact Below.refl _ _ | refine Below.setCell ?_ (by (first | omega | (simp; omega) | (simp; done) | fail "sml")) _ | refine Below.drew ?_ | refine Below.alloc ?_ (by (first | omega | (simp; omega) | (simp; done) | fail "sml")) _)); first | done | fail "chs"))).mono ?_
          rintro en wa ⟨rfl, hka⟩
          go_wp2_with fail
          refine hK.out _ _ ?_ (fun hHeld => ?_)
          · exact (fun hk => ⟨(HK.out _ hk).2.1, (HK.out _ hk).2.2.1, (HK.out _ hk).2.2.2.1, (HK.out _ hk).2.2.2.2, HC0.out _ hk⟩) (show Below (w.heap.size + 2) W _ by ((repeat (first | with_reducible assumption | with_reducible exact Below.refl _ _ | refine Below.setCell ?_ (by (first | omega | (simp; omega) | (simp; done) | fail "sml")) _ | refine Below.drew ?_ | refine Below.alloc ?_ (by (first | omega | (simp; omega) | (simp; done) | fail "sml")) _)); first | done | fail "chs"))
          clear hK K
          (try simp only [Act.put, List.setIfInBounds_toArray, List.set_cons_zero, List.set_cons_succ])
          (refine takeL (i := 15) (v := ?_) rfl (by kernel_rfl) (by kernel_rfl) (by kernel_rfl) (fun _ _ _ h => h) (Or.inl ⟨by kernel_rfl, ?_⟩) (by assumption) ?_; rotate_left; (focus (intro w hSw; (try dsimp only at hSw); go_simp; first | done | with_reducible rfl | fail "take")); (try simp only [Act.put, List.setIfInBounds_toArray, List.set_cons_zero, List.set_cons_succ]))
          (refine takeL (i := 16) (v := ?_) rfl (by kernel_rfl) (by kernel_rfl) (by kernel_rfl) (fun _ _ _ h => h) (Or.inl ⟨by kernel_rfl, ?_⟩) (by assumption) ?_; rotate_left; (focus (intro w hSw; (try dsimp only at hSw); go_simp; first | done | with_reducible rfl | fail "take")); (try simp only [Act.put, List.setIfInBounds_toArray, List.set_cons_zero, List.set_cons_succ]))
          refine wpAnyH_done (by kernel_rfl) ?_ _
          go_wp2_with fail
          go_meet
          exact ⟨rfl, by ((repeat (first | with_reducible assumption | with_reducible exact Below.refl _ _ | refine Below.setCell ?_ (by (first | omega | (simp; omega) | (simp; done) | fail "sml")) _ | refine Below.drew ?_ | refine Below.alloc ?_ (by (first | omega | (simp; omega) | (simp; done) | fail "sml")) _)); first | done | fail "chs")⟩
        case rest =>
          obtain ⟨rfl, hbx⟩ := hcut
          have HA := Lib.hid hbx
          clear hbx rr0
          obtain ⟨hz, a0, a1, a2, a3⟩ := HK.out _ HA.out
          go_wp2_with fail
          go_loopw [29] (fun i wr => ∃ k : Nat, k ≤ x.es.length ∧ i = .int .i64 k ∧ RowKit.Hid (∀ j, j < k → stepB g x j = true) ∧ RowKit.Hid (Below (w.heap.size + 2) W wr)) (fun i _ => x.es.length - (intOf i).toNat)
          case atStart => exact ⟨0, Nat.zero_le _, rfl, Lib.hid (fun j h => by omega), HA⟩
          case round =>
            clear hz a0 a1 a2 a3 HA
            obtain ⟨k, hk, rfl, HS, HA⟩ := hrel
            obtain ⟨hz, a0, a1, a2, a3⟩ := HK.out _ HA.out
            by_cases hlt : k < x.es.length
            · have hla : k < x.ns.length := by omega
              have hlb : k + 1 < x.ns.length := by omega
              have hBW := HA.out.size
              obtain ⟨bq, oq, rfl, hbq, d0⟩ := (HES.out.below ((HV.out.mono hB).trans (HA.out.mono (by omega)))).it hlt
              have HCA := Lib.hid (show ∀ wk, Below (w.heap.size + 2) W wk → wk.cell? ⟨b0, o0 + k, none⟩ = some (.int .i64 x.ns[k]) from fun wk hk => by
                obtain ⟨b9, o9, e9, _, c9⟩ := (HNS.out.below ((HV.out.mono hB).trans (hk.mono (by omega)))).it hla
                cases e9; exact c9)
              have HCB := Lib.hid (show ∀ wk, Below (w.heap.size + 2) W wk → wk.cell? ⟨b0, o0 + (k + 1), none⟩ = some (.int .i64 x.ns[k + 1]) from fun wk hk => by
                obtain ⟨b9, o9, e9, _, c9⟩ := (HNS.out.below ((HV.out.mono hB).trans (hk.mono (by omega)))).it hlb
                cases e9; exact c9)
              have HST := Lib.hid (stepB_at (g := g) hlt hlb)
              have HGOOD := Lib.hid (show stepB g x k = true → ∀ j, j < k + 1 → stepB g x j = true from fun h j hj => by
                by_cases e : j = k
                · subst e; exact h
                · exact HS.out j (by omega))
              have HBAD := Lib.hid (fun h => stepsB_no (g := g) (x := x) hlt h)
              obtain ⟨za, eza⟩ : ∃ z, z = x.ns[k] := ⟨_, rfl⟩
              obtain ⟨zb, ezb⟩ : ∃ z, z = x.ns[k + 1] := ⟨_, rfl⟩
              obtain ⟨ze, eze⟩ : ∃ z, z = x.es[k] := ⟨_, rfl⟩
              rw [← eza] at HCA HST
              rw [← ezb] at HCB HST
              rw [← eze] at d0 HST
              clear eza ezb eze
              go_wp2_with fail
              with_reducible refine (hasEdge_any g _ ze B _ (HGA.out _ HA.out)).mono ?_
              rintro e w1 ⟨rfl, hb1⟩
              have HA1 := Lib.hid (HA.out.trans (hb1.mono (by omega)))
              clear hb1 hz a0 a1 a2 a3 d0
              obtain ⟨hz, a0, a1, a2, a3⟩ := HK.out _ HA1.out
              by_cases hb1 : ze < 0
              · have HT := Lib.hid (show wkValid g x = false by rw [HT0.out]; exact HBAD.out (by rw [HST.out, decide_eq_false (by omega)]; rfl))
                rw [show hn g.es.length ze = false by unfold hn; rw [decide_eq_false (p := 0 ≤ ze) (by omega)]; rfl]
                go_wp2_with fail
                go_ret
                exact ⟨by rw [HT.out]; rfl, HV.out.trans (HA1.out.mono (by omega))⟩
              by_cases hb2 : (g.es.length : Int) ≤ ze
              · have HT := Lib.hid (show wkValid g x = false by rw [HT0.out]; exact HBAD.out (by rw [HST.out, List.getElem?_eq_none (by omega)]; simp))
                rw [show hn g.es.length ze = false by unfold hn; rw [decide_eq_false (p := ze < (g.es.length : Int)) (by omega)]; simp]
                go_wp2_with fail
                go_ret
                exact ⟨by rw [HT.out]; rfl, HV.out.trans (HA1.out.mono (by omega))⟩
              obtain ⟨m, rfl⟩ : ∃ m : Nat, ze = (m : Int) := ⟨ze.toNat, by omega⟩
              have hm : m < g.es.length := by omega
              rw [show hn g.es.length (m : Int) = true by unfold hn; simp; omega]
              obtain ⟨bg, og, rfl, hbg, c0, c1, c2, c3⟩ := (HE.out.below ((HV.out.mono hB).trans (HA1.out.mono (by omega)))).ed hm
              have HST2 := Lib.hid (show stepB g x k = edgeB g.es[m] za zb by rw [HST.out, decide_eq_true (by omega)]; simp [List.getElem?_eq_getElem hm])
              obtain ⟨ed, eed⟩ : ∃ e, e = g.es[m] := ⟨_, rfl⟩
              rw [← eed] at c0 c1 c2 c3 HST2
              clear eed hb1 hb2 HST
              have e0 := HCA.out _ HA1.out
              have hmi : (m : Int) < (g.es.length : Int) := by omega
              have hki : (k : Int) < (x.ns.length : Int) := by omega
              have hkj : (k : Int) + 1 < (x.ns.length : Int) := by omega
              have hs1 := HA1.out.size
              have HCF := Lib.hid (fun (E : World) (hE : Below (w.heap.size + 2) W E) => (followEdge_any ed za 3 E).mono (R' := fun en w' => en = .returned (.tuple #[.int .i64 (follT za 3 ed), .bool (follB za 3 ed)]) ∧ Below (w.heap.size + 2) W w') fun en w' ⟨he, hb⟩ => ⟨he, hE.trans (hb.mono (by have := hE.size; omega))⟩)
              have HCG := Lib.hid (show ∀ wk, Below (w.heap.size + 2) W wk → wk.cell? ⟨bg, og + m * 4, none⟩ = some (.int .i64 ed.f) ∧ wk.cell? ⟨bg, og + m * 4 + 1, none⟩ = some (.int .i64 ed.t) ∧ wk.cell? ⟨bg, og + m * 4 + 2, none⟩ = some (.string ed.l) ∧ wk.cell? ⟨bg, og + m * 4 + 3, none⟩ = some (.int .i64 ed.n) from fun wk hk => by
                have hb9 : Below B w wk := (HV.out.mono hB).trans (hk.mono (by omega))
                have hb8 : Below B w w1 := (HV.out.mono hB).trans (HA1.out.mono (by omega))
                exact ⟨(hb9.cell (p := ⟨bg, _, none⟩) hbg).trans ((hb8.cell (p := ⟨bg, _, none⟩) hbg).symm.trans c0), (hb9.cell (p := ⟨bg, _, none⟩) hbg).trans ((hb8.cell (p := ⟨bg, _, none⟩) hbg).symm.trans c1), (hb9.cell (p := ⟨bg, _, none⟩) hbg).trans ((hb8.cell (p := ⟨bg, _, none⟩) hbg).symm.trans c2), (hb9.cell (p := ⟨bg, _, none⟩) hbg).trans ((hb8.cell (p := ⟨bg, _, none⟩) hbg).symm.trans c3)⟩)
              have hA1 := HA1.out
              clear c0 c1 c2 c3 e0
              go_upto_region 8 with fail
              go_cut [7, 8] (fun s t wx => s = .int .i64 (follT za 3 ed) ∧ t = .bool (follB za 3 ed) ∧ Below (w.heap.size + 2) W wx)
              case first =>
                refine wp_region_held_drew (S := fun w' => w'.cell? ⟨w.heap.size, 0, none⟩ = some (.slice pa g.ns.length ca) ∧ w'.cell? ⟨w.heap.size, 1, none⟩ = some (.slice (some ⟨bg, og, none⟩) g.es.length cb) ∧ w'.cell? ⟨w.heap.size + 1, 0, none⟩ = some (.slice (some ⟨b0, o0, none⟩) x.ns.length cp) ∧ w'.cell? ⟨w.heap.size + 1, 1, none⟩ = some (.slice (some ⟨bq, oq, none⟩) x.es.length cq) ∧ w'.cell? ⟨b0, o0 + k, none⟩ = some (.int .i64 za) ∧ w'.cell? ⟨bg, og + m * 4, none⟩ = some (.int .i64 ed.f) ∧ w'.cell? ⟨bg, og + m * 4 + 1, none⟩ = some (.int .i64 ed.t) ∧ w'.cell? ⟨bg, og + m * 4 + 2, none⟩ = some (.string ed.l) ∧ w'.cell? ⟨bg, og + m * 4 + 3, none⟩ = some (.int .i64 ed.n)) (by kernel_rfl) ?_ (fun hHeld => ?_)
                · exact (fun hk => ⟨(HK.out _ hk).2.1, (HK.out _ hk).2.2.1, (HK.out _ hk).2.2.2.1, (HK.out _ hk).2.2.2.2, HCA.out _ hk, HCG.out _ hk⟩) (show Below (w.heap.size + 2) W _ by ((repeat (first | with_reducible assumption | with_reducible exact Below.refl _ _ | refine Below.setCell ?_ (by (first | omega | (simp; omega) | (simp; done) | fail "sml")) _ | refine Below.drew ?_ | refine Below.alloc ?_ (by (first | omega | (simp; omega) | (simp; done) | fail "sml")) _)); first | done | fail "chs"))
                (refine takeL (i := 0) (v := ?_) rfl (by kernel_rfl) (by kernel_rfl) (by kernel_rfl) (fun _ _ _ h => h) (Or.inl ⟨by kernel_rfl, ?_⟩) (by assumption) ?_; rotate_left; (focus (intro w hSw; (try dsimp only at hSw); go_simp; first | done | with_reducible rfl | fail "take")); (try simp only [Act.put, List.setIfInBounds_toArray, List.set_cons_zero, List.set_cons_succ]))
                (refine takeL (i := 1) (v := ?_) rfl (by kernel_rfl) (by kernel_rfl) (by kernel_rfl) (fun _ _ _ h => h) (Or.inl ⟨by kernel_rfl, ?_⟩) (by assumption) ?_; rotate_left; (focus (intro w hSw; (try dsimp only at hSw); go_simp; first | done | with_reducible rfl | fail "take")); (try simp only [Act.put, List.setIfInBounds_toArray, List.set_cons_zero, List.set_cons_succ]))
                (refine takeL (i := 2) (v := ?_) rfl (by kernel_rfl) (by kernel_rfl) (by kernel_rfl) (fun _ _ _ h => h) (Or.inl ⟨by kernel_rfl, ?_⟩) (by assumption) ?_; rotate_left; (focus (intro w hSw; (try dsimp only at hSw); go_simp; first | done | with_reducible rfl | fail "take")); (try simp only [Act.put, List.setIfInBounds_toArray, List.set_cons_zero, List.set_cons_succ]))
                (refine takeL (i := 3) (v := ?_) rfl (by kernel_rfl) (by kernel_rfl) (by kernel_rfl) (fun _ _ _ h => h) (Or.inl ⟨by kernel_rfl, ?_⟩) (by assumption) ?_; rotate_left; (focus (intro w hSw; (try dsimp only at hSw); go_simp; first | done | with_reducible rfl | fail "take")); (try simp only [Act.put, List.setIfInBounds_toArray, List.set_cons_zero, List.set_cons_succ]))
                (refine takeL (i := 4) (v := ?_) rfl (by kernel_rfl) (by kernel_rfl) (by kernel_rfl) (fun _ _ _ h => h) (Or.inl ⟨by kernel_rfl, ?_⟩) (by assumption) ?_; rotate_left; (focus (intro w hSw; (try dsimp only at hSw); go_simp; first | done | with_reducible rfl | fail "take")); (try simp only [Act.put, List.setIfInBounds_toArray, List.set_cons_zero, List.set_cons_succ]))
                (refine takeL (i := 5) (v := ?_) rfl (by kernel_rfl) (by kernel_rfl) (by kernel_rfl) (fun _ _ _ h => h) (Or.inl ⟨by kernel_rfl, ?_⟩) (by assumption) ?_; rotate_left; (focus (intro w hSw; (try dsimp only at hSw); go_simp; first | done | with_reducible rfl | fail "take")); (try simp only [Act.put, List.setIfInBounds_toArray, List.set_cons_zero, List.set_cons_succ]))
                (refine takeL (i := 6) (v := ?_) rfl (by kernel_rfl) (by kernel_rfl) (by kernel_rfl) (fun _ _ _ h => h) (Or.inl ⟨by kernel_rfl, ?_⟩) (by assumption) ?_; rotate_left; (focus (intro w hSw; (try dsimp only at hSw); go_simp; first | done | with_reducible rfl | fail "take")); (try simp only [Act.put, List.setIfInBounds_toArray, List.set_cons_zero, List.set_cons_succ]))
                (refine takeL (i := 7) (v := ?_) rfl (by kernel_rfl) (by kernel_rfl) (by kernel_rfl) (fun _ _ _ h => h) (Or.inl ⟨by kernel_rfl, ?_⟩) (by assumption) ?_; rotate_left; (focus (intro w hSw; (try dsimp only at hSw); go_simp; first | done | with_reducible rfl | fail "take")); (try simp only [Act.put, List.setIfInBounds_toArray, List.set_cons_zero, List.set_cons_succ]))
                (refine takeL (i := 8) (v := ?_) rfl (by kernel_rfl) (by kernel_rfl) (by kernel_rfl) (fun _ _ _ h => h) (Or.inl ⟨by kernel_rfl, ?_⟩) (by assumption) ?_; rotate_left; (focus (intro w hSw; (try dsimp only at hSw); go_simp; first | done | with_reducible rfl | fail "take")); (try simp only [Act.put, List.setIfInBounds_toArray, List.set_cons_zero, List.set_cons_succ]))
                (refine takeL (i := 9) (v := ?_) rfl (by kernel_rfl) (by kernel_rfl) (by kernel_rfl) (fun _ _ _ h => h) (Or.inl ⟨by kernel_rfl, ?_⟩) (by assumption) ?_; rotate_left; (focus (intro w hSw; (try dsimp only at hSw); go_simp; first | done | with_reducible rfl | fail "take")); (try simp only [Act.put, List.setIfInBounds_toArray, List.set_cons_zero, List.set_cons_succ]))
                (refine callL (i := 10) rfl (by kernel_rfl) (by kernel_rfl) (fun K hK => ?_); go_simp)
                go_at_call 62
                with_reducible refine (HCF.out _ (by ((repeat (first | with_reducible assumption | with_reducible exact Below.refl _ _ | refine Below.setCell ?_ (by (first | omega | (simp; omega) | (simp; done) | fail "sml")) _ | refine Below.drew ?_ | refine Below.alloc ?_ (by (first | omega | (simp; omega) | (simp; done) | fail "sml")) _)); first | done | fail "chs"))).mono ?_
                rintro en wa ⟨rfl, hka⟩
                go_wp2_with fail
                refine hK.out _ _ ?_ (fun hHeld => ?_)
                · exact (fun hk => ⟨(HK.out _ hk).2.1, (HK.out _ hk).2.2.1, (HK.out _ hk).2.2.2.1, (HK.out _ hk).2.2.2.2, HCA.out _ hk, HCG.out _ hk⟩) (show Below (w.heap.size + 2) W _ by ((repeat (first | with_reducible assumption | with_reducible exact Below.refl _ _ | refine Below.setCell ?_ (by (first | omega | (simp; omega) | (simp; done) | fail "sml")) _ | refine Below.drew ?_ | refine Below.alloc ?_ (by (first | omega | (simp; omega) | (simp; done) | fail "sml")) _)); first | done | fail "chs"))
                clear hK K
                (try simp only [Act.put, List.setIfInBounds_toArray, List.set_cons_zero, List.set_cons_succ])
                (refine takeL (i := 11) (v := ?_) rfl (by kernel_rfl) (by kernel_rfl) (by kernel_rfl) (fun _ _ _ h => h) (Or.inl ⟨by kernel_rfl, ?_⟩) (by assumption) ?_; rotate_left; (focus (intro w hSw; (try dsimp only at hSw); go_simp; first | done | with_reducible rfl | fail "take")); (try simp only [Act.put, List.setIfInBounds_toArray, List.set_cons_zero, List.set_cons_succ]))
                (refine takeL (i := 12) (v := ?_) rfl (by kernel_rfl) (by kernel_rfl) (by kernel_rfl) (fun _ _ _ h => h) (Or.inl ⟨by kernel_rfl, ?_⟩) (by assumption) ?_; rotate_left; (focus (intro w hSw; (try dsimp only at hSw); go_simp; first | done | with_reducible rfl | fail "take")); (try simp only [Act.put, List.setIfInBounds_toArray, List.set_cons_zero, List.set_cons_succ]))
                (refine takeL (i := 13) (v := ?_) rfl (by kernel_rfl) (by kernel_rfl) (by kernel_rfl) (fun _ _ _ h => h) (Or.inl ⟨by kernel_rfl, ?_⟩) (by assumption) ?_; rotate_left; (focus (intro w hSw; (try dsimp only at hSw); go_simp; first | done | with_reducible rfl | fail "take")); (try simp only [Act.put, List.setIfInBounds_toArray, List.set_cons_zero, List.set_cons_succ]))
                (refine takeL (i := 14) (v := ?_) rfl (by kernel_rfl) (by kernel_rfl) (by kernel_rfl) (fun _ _ _ h => h) (Or.inl ⟨by kernel_rfl, ?_⟩) (by assumption) ?_; rotate_left; (focus (intro w hSw; (try dsimp only at hSw); go_simp; first | done | with_reducible rfl | fail "take")); (try simp only [Act.put, List.setIfInBounds_toArray, List.set_cons_zero, List.set_cons_succ]))
                (refine takeL (i := 15) (v := ?_) rfl (by kernel_rfl) (by kernel_rfl) (by kernel_rfl) (fun _ _ _ h => h) (Or.inl ⟨by kernel_rfl, ?_⟩) (by assumption) ?_; rotate_left; (focus (intro w hSw; (try dsimp only at hSw); go_simp; first | done | with_reducible rfl | fail "take")); (try simp only [Act.put, List.setIfInBounds_toArray, List.set_cons_zero, List.set_cons_succ]))
                refine wpAnyH_done (by kernel_rfl) ?_ _
                go_wp2_with fail
                go_meet
                exact ⟨rfl, rfl, by ((repeat (first | with_reducible assumption | with_reducible exact Below.refl _ _ | refine Below.setCell ?_ (by (first | omega | (simp; omega) | (simp; done) | fail "sml")) _ | refine Below.drew ?_ | refine Below.alloc ?_ (by (first | omega | (simp; omega) | (simp; done) | fail "sml")) _)); first | done | fail "chs")⟩
              case rest =>
                obtain ⟨rfl, rfl, hbx⟩ := hcut
                have HA2 := Lib.hid hbx
                clear hbx hA1 hz a0 a1 a2 a3
                obtain ⟨hz, a0, a1, a2, a3⟩ := HK.out _ HA2.out
                have e1 := HCB.out _ HA2.out
                cases hfb : follB za 3 ed with
                | false =>
                  have HT := Lib.hid (show wkValid g x = false by rw [HT0.out]; exact HBAD.out (by rw [HST2.out, edge_foll, hfb]; rfl))
                  go_wp2_with fail
                  go_ret
                  exact ⟨by rw [HT.out]; rfl, HV.out.trans (HA2.out.mono (by omega))⟩
                | true =>
                  by_cases hto : follT za 3 ed = zb
                  · have HG := Lib.hid (HGOOD.out (by rw [HST2.out, edge_foll, hfb, hto]; simp))
                    have q1 : (follT za 3 ed != zb) = false := by simp [hto]
                    clear hto
                    go_wp2_with fail
                    go_roundw
                    case rel => exact ⟨k + 1, by omega, by go_num, HG, HA2⟩
                    case measure => simp [intOf]; omega
                  · have HT := Lib.hid (show wkValid g x = false by rw [HT0.out]; exact HBAD.out (by rw [HST2.out, edge_foll, hfb, beq_eq_false_iff_ne.2 hto]; rfl))
                    have q1 : (follT za 3 ed != zb) = true := by simp [hto]
                    clear hto
                    go_wp2_with fail
                    go_ret
                    exact ⟨by rw [HT.out]; rfl, HV.out.trans (HA2.out.mono (by omega))⟩
            · have HT := Lib.hid (show wkValid g x = true by rw [HT0.out]; exact stepsB_yes HS.out (by omega))
              go_wp2_with fail
              go_ret
              exact ⟨by rw [HT.out]; rfl, HV.out.trans (HA.out.mono (by omega))⟩
end Go.Proofs.Ytckmganhabgbfaa
