/- BindOf, on both sides. -/
import Derived.Test.YtchhobphockhhaaMt
import Derived.Test.YtchhobphockhhaaReg
import Derived.Test.YtchhobphockhhaaInts
import Derived.Test.YtchhobphockhhaaConcatI
import Derived.Test.YtchhobphockhhaaL5C
namespace Go.Proofs.Ytchhobphockhhaa
open Go.RowKit

def bnP (s : ByteArray) (b : Bn) : Bool := b.v.toList == s.toList
def NoneB (xs : List Bn) (s : ByteArray) (k : Nat) : Prop := ∀ i (h : i < xs.length), i < k → bnP s xs[i] = false
theorem NoneB.zero (xs : List Bn) (s : ByteArray) : NoneB xs s 0 := fun _ _ h => by omega
theorem NoneB.succ {xs : List Bn} {s : ByteArray} {k : Nat} (h : NoneB xs s k) (hk : k < xs.length) (hp : bnP s xs[k] = false) : NoneB xs s (k + 1) := fun i hi hik => by
  by_cases e : i = k
  · subst e; exact hp
  · exact h i hi (by omega)
/-- What a search answers. -/
def FindR (xs : List Bn) (s : ByteArray) (r : Int) : Prop := (r = -1 ∧ NoneB xs s xs.length) ∨ ∃ k : Nat, ∃ h : k < xs.length, r = k ∧ NoneB xs s k ∧ bnP s xs[k] = true
/-- What BindOf answers. -/
def bof (xs : List Bn) (s : ByteArray) : Bn × Bool := match xs.find? (bnP s) with | some b => (b, true) | none => (⟨⟨#[]⟩, [], false⟩, false)
theorem bof_none {xs : List Bn} {s : ByteArray} (h : NoneB xs s xs.length) : bof xs s = (⟨⟨#[]⟩, [], false⟩, false) := by
  have : xs.find? (bnP s) = none := List.find?_eq_none.2 fun x hx => by
    obtain ⟨i, hi, rfl⟩ := List.getElem_of_mem hx
    rw [h i hi hi]; simp
  unfold bof; rw [this]
theorem bof_at {xs : List Bn} {s : ByteArray} {k : Nat} (hk : k < xs.length) (h : NoneB xs s k) (hp : bnP s xs[k] = true) : bof xs s = (xs[k], true) := by
  have : xs.find? (bnP s) = some xs[k] := List.find?_eq_some_iff_getElem.2 ⟨hp, k, hk, rfl, fun j hj => by rw [h j (by omega) hj]; rfl⟩
  unfold bof; rw [this]
/-- The value of a struct Bind; in memory of the call's own. -/
def Bn.At (b : Bn) (B : Nat) (w : World) (v : Value) : Prop := ∃ s, v = .agg #[.string b.v, s, .bool b.g] ∧ Sl 1 intCells B w s b.ids
def Bn.Has (b : Bn) (v : Value) (F : List Nat) (w : World) : Prop := ∃ s, v = .agg #[.string b.v, s, .bool b.g] ∧ OwnSl 1 intCells w s b.ids F
theorem Bn.Has.at {b : Bn} {v : Value} {F : List Nat} {w : World} (h : b.Has v F w) : b.At w.heap.size w v := by
  obtain ⟨s, rfl, h⟩ := h; exact ⟨s, rfl, h.sl⟩
theorem Bn.Has.chg {b : Bn} {v : Value} {F G : List Nat} {w w' : World} (h : b.Has v F w) (hc : Chg G w w') (hd : ∀ y ∈ F, y ∉ G) : b.Has v F w' := by
  obtain ⟨s, rfl, h⟩ := h; exact ⟨s, rfl, h.chg hc hd⟩
theorem Bn.Has.lt {b : Bn} {v : Value} {F : List Nat} {w : World} (h : b.Has v F w) : ∀ y ∈ F, y < w.heap.size := by
  obtain ⟨s, rfl, h⟩ := h; exact h.lt
theorem Bn.At.to {b : Bn} {B B' : Nat} {w w' : World} {v : Value} (h : b.At B w v) (hb : Below B w w') (hB : B ≤ B') : b.At B' w' v := by
  obtain ⟨s, rfl, h⟩ := h; exact ⟨s, rfl, (h.below hb).mono hB⟩
theorem Bn.At.form {b : Bn} {B : Nat} {w : World} {v : Value} (h : b.At B w v) : ∃ p c, v = .agg #[.string b.v, .slice p b.ids.length c, .bool b.g] := by
  obtain ⟨s, rfl, h⟩ := h
  obtain ⟨p, c, rfl⟩ := h.form
  exact ⟨p, c, rfl⟩
theorem Bn.goes (b : Bn) : Goes b.Has := fun _ _ _ _ _ h hc hd => h.chg hc hd
def BoPost (xs : List Bn) (s : ByteArray) (w : World) (e : Ending) (w' : World) : Prop := ∃ u F, e = .returned (.tuple #[u, .bool (bof xs s).2]) ∧ (bof xs s).1.Has u F w' ∧ (∀ y ∈ F, w.heap.size ≤ y) ∧ Below w.heap.size w w'
theorem bn_need {xs : List Bn} {k : Nat} (h : sumBn xs ≤ 1048576) (hk : k < xs.length) : (xs[k]).ids.length ≤ 1048576 := by
  have := sumBn_get xs k hk; unfold Bn.need at this; omega

set_option maxHeartbeats 1000000 in
theorem l6Find_any (xs : List Bn) (v : Value) (s : ByteArray) (B : Nat) (w : World) (hv : kBn.Rd B w v xs) (hB : B ≤ w.heap.size) :
    Calls Try.prog 72 #[v, .string s] w fun e w' => ∃ r : Int, e = .returned (.int .i64 r) ∧ FindR xs s r ∧ Below w.heap.size w w' := by
  obtain ⟨p, cap, rfl⟩ := hv.form
  obtain ⟨_, _, hm⟩ := hv.max
  unfold maxLen at hm
  have HV := Lib.hid hv
  clear hv
  go_enter Try.func72, Try.ntmps72
  go_wp2_with fail
  go_loopw [5] (fun i wr => ∃ k : Nat, k ≤ xs.length ∧ i = .int .i64 k ∧ NoneB xs s k ∧ Below w.heap.size w wr) (fun i _ => xs.length - (intOf i).toNat)
  case atStart => exact ⟨0, Nat.zero_le _, rfl, NoneB.zero _ _, Below.refl _ _⟩
  case round =>
    obtain ⟨k, hk, rfl, ha, hbw⟩ := hrel
    have hsz := hbw.size
    have HB := Lib.hid hbw
    clear hbw
    by_cases hlt : k < xs.length
    · obtain ⟨b, off, q, c, rfl, hb, c0, c1, c2, hin⟩ := kBn_get (HV.out.to (HB.out.mono hB) (Nat.le_refl _)) hlt
      have hgood := Lib.hid (fun h => (Or.inr ⟨k, hlt, rfl, ha, h⟩ : FindR xs s k))
      have hbad := Lib.hid (fun h => ha.succ hlt h)
      obtain ⟨x, ex⟩ : ∃ x, x = xs[k] := ⟨_, rfl⟩
      rw [← ex] at c0 c1 c2 hin hgood hbad
      clear ex ha hin
      cases hp : bnP s x with
      | true =>
        have HG := Lib.hid (hgood.out hp)
        have q0 : (x.v.toList == s.toList) = true := hp
        clear hgood hbad hp
        go_wp2_with fail
        go_ret
        exact ⟨k, rfl, HG.out, HB.out⟩
      | false =>
        have HG := Lib.hid (hbad.out hp)
        have q0 : (x.v.toList == s.toList) = false := hp
        clear hgood hbad hp
        go_wp2_with fail
        go_roundw
        case rel => exact ⟨k + 1, by omega, by go_num, HG.out, HB.out⟩
        case measure => simp [intOf]; omega
    · obtain rfl : k = xs.length := by omega
      have HG := Lib.hid (show FindR xs s (-1) from Or.inl ⟨rfl, ha⟩)
      go_wp2_with fail
      go_ret
      exact ⟨-1, rfl, HG.out, HB.out⟩

set_option maxHeartbeats 400000 in
theorem fnFind_any (x : Bn) (s : ByteArray) (u : Value) (c : Nat) (w : World) (hc : w.cell? ⟨c, 0, none⟩ = some (.string s)) :
    Calls Try.prog 106 #[.agg #[.string x.v, u, .bool x.g], .pointer (some ⟨c, 0, none⟩)] w fun e w' => e = .returned (.bool (bnP s x)) ∧ Below w.heap.size w w' := by
  have hlt := World.block_lt_of_cell? w _ hc
  go_enter Try.func106, Try.ntmps106
  go_wp2_with fail
  go_ret
  exact ⟨rfl, (Below.refl _ _).alloc (Nat.le_refl _) _⟩

set_option maxRecDepth 100000 in
set_option maxHeartbeats 1000000 in
theorem indexBind_any (xs : List Bn) (v : Value) (s : ByteArray) (c : Nat) (B : Nat) (w : World) (hv : kBn.Rd B w v xs) (hB : B ≤ w.heap.size) (hc : w.cell? ⟨c, 0, none⟩ = some (.string s)) :
    Calls Try.prog 105 #[v, .func (.func 106) #[] #[.pointer (some ⟨c, 0, none⟩)]] w fun e w' => ∃ r : Int, e = .returned (.int .i64 r) ∧ FindR xs s r ∧ Below w.heap.size w w' := by
  have hcl : c < w.heap.size := World.block_lt_of_cell? w _ hc
  obtain ⟨p, cap, rfl⟩ := hv.form
  obtain ⟨_, _, hm⟩ := hv.max
  unfold maxLen at hm
  have HV := Lib.hid hv
  clear hv
  go_enter Try.func105, Try.ntmps105
  go_wp2_with fail
  go_loopw [8] (fun i wr => ∃ k : Nat, k ≤ xs.length ∧ i = .int .i64 k ∧ NoneB xs s k ∧ Below w.heap.size w wr) (fun i _ => xs.length - (intOf i).toNat)
  case atStart => exact ⟨0, Nat.zero_le _, rfl, NoneB.zero _ _, Below.refl _ _⟩
  case round =>
    obtain ⟨k, hk, rfl, ha, hbw⟩ := hrel
    have hsz := hbw.size
    have HB := Lib.hid hbw
    clear hbw
    by_cases hlt : k < xs.length
    · obtain ⟨b, off, q, cq, rfl, hb, c0, c1, c2, hin⟩ := kBn_get (HV.out.to (HB.out.mono hB) (Nat.le_refl _)) hlt
      have hgood := Lib.hid (fun h => (Or.inr ⟨k, hlt, rfl, ha, h⟩ : FindR xs s k))
      have hbad := Lib.hid (fun h => ha.succ hlt h)
      obtain ⟨x, ex⟩ : ∃ x, x = xs[k] := ⟨_, rfl⟩
      rw [← ex] at c0 c1 c2 hin hgood hbad
      clear ex ha hin
      go_wp2_with fail
      refine (fnFind_any x s _ c _ (keepc HB.out hcl hc)).mono ?_
      rintro e w1 ⟨rfl, hb1⟩
      have HB1 := Lib.hid (HB.out.trans (hb1.mono hsz))
      clear hb1
      cases hp : bnP s x with
      | true =>
        have HG := Lib.hid (hgood.out hp)
        clear hgood hbad
        go_wp2_with fail
        go_ret
        exact ⟨k, rfl, HG.out, HB1.out⟩
      | false =>
        have HG := Lib.hid (hbad.out hp)
        clear hgood hbad
        go_wp2_with fail
        go_roundw
        case rel => exact ⟨k + 1, by omega, by go_num, HG.out, HB1.out⟩
        case measure => simp [intOf]; omega
    · obtain rfl : k = xs.length := by omega
      have HG := Lib.hid (show FindR xs s (-1) from Or.inl ⟨rfl, ha⟩)
      go_wp2_with fail
      go_ret
      exact ⟨-1, rfl, HG.out, HB.out⟩

set_option maxHeartbeats 400000 in
theorem findBind_any (xs : List Bn) (v : Value) (s : ByteArray) (B : Nat) (w : World) (hv : kBn.Rd B w v xs) (hB : B ≤ w.heap.size) :
    Calls Try.prog 73 #[v, .string s] w fun e w' => ∃ r : Int, e = .returned (.int .i64 r) ∧ FindR xs s r ∧ Below w.heap.size w w' := by
  have HV := Lib.hid hv
  obtain ⟨p, cap, rfl⟩ := hv.form
  clear hv
  go_enter Try.func73, Try.ntmps73
  go_wp2_with fail
  have hbt : Below w.heap.size w (w.alloc (.cells #[.string s] 9)) := (Below.refl _ _).alloc (Nat.le_refl _) _
  refine (indexBind_any xs _ s w.heap.size B _ (HV.out.to (hbt.mono hB) (Nat.le_refl _)) (by simp; omega) (by simp [go_sem])).mono ?_
  rintro e w1 ⟨r, rfl, hr, hb1⟩
  have HR := Lib.hid hr
  have HB1 := Lib.hid (hbt.trans (hb1.mono (by simp)))
  clear hr hb1
  go_wp2_with fail
  go_ret
  exact ⟨r, rfl, HR.out, HB1.out⟩

set_option maxRecDepth 100000 in
set_option maxHeartbeats 2000000 in
theorem copyBind_any (b : Bn) (v : Value) (B : Nat) (w : World) (hv : b.At B w v) (hB : B ≤ w.heap.size) (hn : b.ids.length ≤ 1048576) :
    Calls Try.prog 74 #[v] w fun e w' => ∃ u F, e = .returned u ∧ b.Has u F w' ∧ (∀ y ∈ F, w.heap.size ≤ y) ∧ Below w.heap.size w w' := by
  have HS := Lib.hid (show ∃ s, v = .agg #[.string b.v, s, .bool b.g] ∧ Sl 1 intCells B w s b.ids from hv)
  obtain ⟨s, rfl, hs⟩ := hv
  have HSL := Lib.hid hs
  obtain ⟨p, cap, rfl⟩ := hs.form
  clear hs HS
  go_enter Try.func74, Try.ntmps74
  go_wp2_with fail
  obtain ⟨W, eW⟩ : ∃ E, E = (w.alloc (.cells #[.string b.v, .slice p b.ids.length cap, .bool b.g] 45)).alloc (.cells #[.string ⟨#[]⟩, .slice none 0 0, .bool false] 45) := ⟨_, rfl⟩
  have zW : w.heap.size + 1 < W.heap.size := by rw [eW]; simp
  have hbW : Below w.heap.size w W := by rw [eW]; exact ((Below.refl _ _).alloc (Nat.le_refl _) _).alloc (by simp) _
  have HC := Lib.hid (show (W.cell? ⟨w.heap.size, 0, none⟩ = some (.string b.v) ∧ W.cell? ⟨w.heap.size, 1, none⟩ = some (.slice p b.ids.length cap) ∧ W.cell? ⟨w.heap.size, 2, none⟩ = some (.bool b.g)) ∧ (W.cell? ⟨w.heap.size + 1, 0, none⟩ = some (.string ⟨#[]⟩) ∧ W.cell? ⟨w.heap.size + 1, 1, none⟩ = some (.slice none 0 0) ∧ W.cell? ⟨w.heap.size + 1, 2, none⟩ = some (.bool false)) ∧ W.frozen? ⟨w.heap.size + 1, 0, none⟩ = false ∧ W.frozen? ⟨w.heap.size + 1, 1, none⟩ = false ∧ W.frozen? ⟨w.heap.size + 1, 2, none⟩ = false by
    rw [eW]; exact ⟨⟨by simp [go_sem], by simp [go_sem], by simp [go_sem]⟩, ⟨by simp [go_sem], by simp [go_sem], by simp [go_sem]⟩, by simp [go_sem], by simp [go_sem], by simp [go_sem]⟩)
  rw [← eW]
  clear eW
  have KS := Lib.hid (fun (E : World) (hE : Below W.heap.size W E) => (show E.cell? ⟨w.heap.size, 0, none⟩ = some (.string b.v) ∧ E.cell? ⟨w.heap.size, 1, none⟩ = some (.slice p b.ids.length cap) ∧ E.cell? ⟨w.heap.size, 2, none⟩ = some (.bool b.g) from ⟨keepc hE (by omega) HC.out.1.1, keepc hE (by omega) HC.out.1.2.1, keepc hE (by omega) HC.out.1.2.2⟩))
  have HSW := Lib.hid (fun (E : World) (hE : Below W.heap.size W E) => (show Sl 1 intCells W.heap.size E (.slice p b.ids.length cap) b.ids from ((HSL.out.below (hbW.mono hB)).mono (show B ≤ W.heap.size by omega)).below hE))
  have HW := Lib.hid hbW
  have r0 := Below.refl W.heap.size W
  clear hbW
  go_upto_region 1 with fail
  refine wp_region_E (last := 9) (S := fun w' => w'.cell? ⟨w.heap.size, 0, none⟩ = some (.string b.v) ∧ w'.cell? ⟨w.heap.size, 1, none⟩ = some (.slice p b.ids.length cap) ∧ w'.cell? ⟨w.heap.size, 2, none⟩ = some (.bool b.g)) (by kernel_rfl) ?_ (fun hHeld => ?_)
  · exact KS.out _ ((Below.refl _ _).drew)
  have cW : Below W.heap.size W W.drew := (Below.refl _ _).drew
  generalize W.drew = W0 at cW hHeld ⊢
  have yW := cW.size
  (refine takeE (i := 0) (v := ?_) [] rfl (by kernel_rfl) (by kernel_rfl) (fun _ _ _ h => h) (Or.inl ⟨by kernel_rfl, ?_⟩) (by assumption) ?_; rotate_left; (focus (intro w hSw; (try dsimp only at hSw); go_simp; first | done | with_reducible rfl | fail "takeE")); (try simp only [Act.put, List.setIfInBounds_toArray, List.set_cons_zero, List.set_cons_succ]))
  (refine takeE (i := 1) (v := ?_) [] rfl (by kernel_rfl) (by kernel_rfl) (fun _ _ _ h => h) (Or.inl ⟨by kernel_rfl, ?_⟩) (by assumption) ?_; rotate_left; (focus (intro w hSw; (try dsimp only at hSw); go_simp; first | done | with_reducible rfl | fail "takeE")); (try simp only [Act.put, List.setIfInBounds_toArray, List.set_cons_zero, List.set_cons_succ]))
  (refine takeE (i := 2) (v := ?_) [] rfl (by kernel_rfl) (by kernel_rfl) (fun _ _ _ h => h) (Or.inl ⟨by kernel_rfl, ?_⟩) (by assumption) ?_; rotate_left; (focus (intro w hSw; (try dsimp only at hSw); go_simp; first | done | with_reducible rfl | fail "takeE")); (try simp only [Act.put, List.setIfInBounds_toArray, List.set_cons_zero, List.set_cons_succ]))
  (refine takeE (i := 3) (v := ?_) [] rfl (by kernel_rfl) (by kernel_rfl) (fun _ _ _ h => h) (Or.inl ⟨by kernel_rfl, ?_⟩) (by assumption) ?_; rotate_left; (focus (intro w hSw; (try dsimp only at hSw); go_simp; first | done | with_reducible rfl | fail "takeE")); (try simp only [Act.put, List.setIfInBounds_toArray, List.set_cons_zero, List.set_cons_succ]))
  (refine takeE (i := 6) (v := ?_) [] rfl (by kernel_rfl) (by kernel_rfl) (fun _ _ _ h => h) (Or.inl ⟨by kernel_rfl, ?_⟩) (by assumption) ?_; rotate_left; (focus (intro w hSw; (try dsimp only at hSw); go_simp; first | done | with_reducible rfl | fail "takeE")); (try simp only [Act.put, List.setIfInBounds_toArray, List.set_cons_zero, List.set_cons_succ]))
  (refine takeE (i := 7) (v := ?_) [] rfl (by kernel_rfl) (by kernel_rfl) (fun _ _ _ h => h) (Or.inl ⟨by kernel_rfl, ?_⟩) (by assumption) ?_; rotate_left; (focus (intro w hSw; (try dsimp only at hSw); go_simp; first | done | with_reducible rfl | fail "takeE")); (try simp only [Act.put, List.setIfInBounds_toArray, List.set_cons_zero, List.set_cons_succ]))
  refine oneE (i := 4) rfl (by kernel_rfl) (by kernel_rfl) (fun K hK => ?_)
  go_simp
  obtain ⟨W2, eW2⟩ : ∃ E, E = W0.alloc (.cells #[.slice p b.ids.length cap] 23) := ⟨_, rfl⟩
  have hl2 : Below W0.heap.size W0 W2 := by rw [eW2]; exact (Below.refl _ _).alloc (Nat.le_refl _) _
  have c2 : W2.cell? ⟨W0.heap.size, 0, none⟩ = some (.slice p b.ids.length cap) := by rw [eW2]; simp [go_sem]
  have z2 : W0.heap.size < W2.heap.size := by rw [eW2]; simp
  rw [← eW2]
  clear eW2
  have cW2 : Below W.heap.size W W2 := cW.trans (hl2.mono yW)
  refine hK.out _ _ (KS.out _ cW2) (fun hHeld => ?_)
  clear hK K
  (try simp only [Act.put, List.setIfInBounds_toArray, List.set_cons_zero, List.set_cons_succ])
  refine oneE (i := 5) rfl (by kernel_rfl) (by kernel_rfl) (fun K hK => ?_)
  go_simp
  go_at_call 99
  refine Calls.mono (concatInt_any [(.slice p b.ids.length cap, b.ids)] W0.heap.size 1 W.heap.size W2 (fun i hi => by
      obtain rfl : i = 0 := by simp at hi; omega
      exact c2) (fun i hi => by
      obtain rfl : i = 0 := by simp at hi; omega
      exact HSW.out _ cW2) (by omega) (by simp) (by simp [upTo]; omega) z2) ?_
  rintro en W3 ⟨u3, F3, rfl, h3, hF3, hb3⟩
  have h3' : OwnSl 1 intCells W3 u3 b.ids F3 := by simpa [joined] using h3
  obtain ⟨p3, c3, rfl⟩ := h3'.sl.form
  have HO := Lib.hid h3'
  have cW3 : Below W.heap.size W W3 := cW2.trans (hb3.mono cW2.size)
  have yW3 := hb3.size
  clear h3 h3'
  go_wp2_with fail
  refine hK.out _ _ (KS.out _ cW3) (fun hHeld => ?_)
  clear hK K
  (try simp only [Act.put, List.setIfInBounds_toArray, List.set_cons_zero, List.set_cons_succ])
  (refine takeE (i := 8) (v := ?_) [] rfl (by kernel_rfl) (by kernel_rfl) (fun _ _ _ h => h) (Or.inl ⟨by kernel_rfl, ?_⟩) (by assumption) ?_; rotate_left; (focus (intro w hSw; (try dsimp only at hSw); go_simp; first | done | with_reducible rfl | fail "takeE")); (try simp only [Act.put, List.setIfInBounds_toArray, List.set_cons_zero, List.set_cons_succ]))
  refine lastE rfl (by kernel_rfl) (by kernel_rfl) (fun K hK => ?_)
  have d0 := keepc cW3 zW HC.out.2.1.1
  have d1 := keepc cW3 zW HC.out.2.1.2.1
  have d2 := keepc cW3 zW HC.out.2.1.2.2
  have f0 : W3.frozen? ⟨w.heap.size + 1, 0, none⟩ = false := (cW3.frozen (p := ⟨w.heap.size + 1, 0, none⟩) zW).trans HC.out.2.2.1
  have f1 : W3.frozen? ⟨w.heap.size + 1, 1, none⟩ = false := (cW3.frozen (p := ⟨w.heap.size + 1, 1, none⟩) zW).trans HC.out.2.2.2.1
  have f2 : W3.frozen? ⟨w.heap.size + 1, 2, none⟩ = false := (cW3.frozen (p := ⟨w.heap.size + 1, 2, none⟩) zW).trans HC.out.2.2.2.2
  go_simp
  refine hK.out _ _ ?_
  clear hK K
  refine doneE (by kernel_rfl) ?_ _
  go_wp2_with fail
  refine bodyPost_ret (v := .agg #[.string b.v, .slice p3 b.ids.length c3, .bool b.g]) (by simp [results, Try.results74, go_sem, d0, d1, d2]) rfl ?_
  have hs : ∀ E, Chg [w.heap.size + 1] W3 E → Below w.heap.size W3 E → ∃ u F, Ending.returned (.agg #[.string b.v, .slice p3 b.ids.length c3, .bool b.g]) = .returned u ∧ b.Has u F E ∧ (∀ y ∈ F, w.heap.size ≤ y) ∧ Below w.heap.size w E := by
    intro E hE hE2
    exact ⟨_, F3, rfl, ⟨_, rfl, HO.out.chg hE (fun y hy => by have := hF3 y hy; simp; omega)⟩, fun y hy => by have := hF3 y hy; omega, (HW.out.trans (cW3.mono HW.out.size)).trans hE2⟩
  refine hs _ ?_ ?_
  · repeat (first | exact Chg.refl _ _ | refine Chg.setCell ?_ (by simp) _)
  · repeat (first | exact Below.refl _ _ | refine Below.setCell ?_ (by (first | omega | (simp; omega) | (simp; done) | fail "sml")) _)

set_option maxRecDepth 100000 in
set_option maxHeartbeats 4000000 in
theorem bindOf_any (m : Mt) (v : Value) (s : ByteArray) (B : Nat) (w : World) (hm : m.At B w v) (hB : B ≤ w.heap.size) (hn : sumBn m.bs ≤ 1048576) :
    Calls Try.prog 26 #[v, .string s] w (BoPost m.bs s w) := by
  obtain ⟨a1, a2, a3, rfl, _, _, h3⟩ := hm
  have H3 := Lib.hid h3
  obtain ⟨p, cap, rfl⟩ := h3.form
  clear h3
  go_enter Try.func26, Try.ntmps26
  go_wp2_with fail
  obtain ⟨W, eW⟩ : ∃ E, E = (w.alloc (.cells #[a1, a2, .slice p m.bs.length cap] 41)).alloc (.cells #[.string ⟨#[]⟩, .slice none 0 0, .bool false] 45) := ⟨_, rfl⟩
  have zW : w.heap.size + 1 < W.heap.size := by rw [eW]; simp
  have hbW : Below w.heap.size w W := by rw [eW]; exact ((Below.refl _ _).alloc (Nat.le_refl _) _).alloc (by simp) _
  have HC := Lib.hid (show W.cell? ⟨w.heap.size, 2, none⟩ = some (.slice p m.bs.length cap) ∧ (W.cell? ⟨w.heap.size + 1, 0, none⟩ = some (.string ⟨#[]⟩) ∧ W.cell? ⟨w.heap.size + 1, 1, none⟩ = some (.slice none 0 0) ∧ W.cell? ⟨w.heap.size + 1, 2, none⟩ = some (.bool false)) ∧ W.frozen? ⟨w.heap.size + 1, 0, none⟩ = false ∧ W.frozen? ⟨w.heap.size + 1, 1, none⟩ = false ∧ W.frozen? ⟨w.heap.size + 1, 2, none⟩ = false by
    rw [eW]; exact ⟨by simp [go_sem], ⟨by simp [go_sem], by simp [go_sem], by simp [go_sem]⟩, by simp [go_sem], by simp [go_sem], by simp [go_sem]⟩)
  rw [← eW]
  clear eW
  have HR := Lib.hid (fun (E : World) (hE : Below W.heap.size W E) => (show E.cell? ⟨w.heap.size, 2, none⟩ = some (.slice p m.bs.length cap) ∧ (E.cell? ⟨w.heap.size + 1, 0, none⟩ = some (.string ⟨#[]⟩) ∧ E.cell? ⟨w.heap.size + 1, 1, none⟩ = some (.slice none 0 0) ∧ E.cell? ⟨w.heap.size + 1, 2, none⟩ = some (.bool false)) ∧ E.frozen? ⟨w.heap.size + 1, 0, none⟩ = false ∧ E.frozen? ⟨w.heap.size + 1, 1, none⟩ = false ∧ E.frozen? ⟨w.heap.size + 1, 2, none⟩ = false from
    ⟨keepc hE (by omega) HC.out.1, ⟨keepc hE zW HC.out.2.1.1, keepc hE zW HC.out.2.1.2.1, keepc hE zW HC.out.2.1.2.2⟩, (hE.frozen (p := ⟨w.heap.size + 1, 0, none⟩) zW).trans HC.out.2.2.1, (hE.frozen (p := ⟨w.heap.size + 1, 1, none⟩) zW).trans HC.out.2.2.2.1, (hE.frozen (p := ⟨w.heap.size + 1, 2, none⟩) zW).trans HC.out.2.2.2.2⟩))
  have HB3 := Lib.hid (fun (E : World) (hE : Below W.heap.size W E) => (show kBn.Rd W.heap.size E (.slice p m.bs.length cap) m.bs from (H3.out.to (hbW.mono hB) (show B ≤ W.heap.size by omega)).to hE (Nat.le_refl _)))
  have HW := Lib.hid hbW
  have r0 := Below.refl W.heap.size W
  clear hbW
  obtain ⟨y0, ⟨y1, y2, y3⟩, y4, y5, y6⟩ := HR.out _ r0
  go_wp2_with fail
  refine (findBind_any m.bs _ s W.heap.size W (HB3.out _ r0) (Nat.le_refl _)).mono ?_
  rintro e w1 ⟨r, rfl, hr, hb1⟩
  have hs1 := hb1.size
  clear y0 y1 y2 y3 y4 y5 y6
  obtain ⟨y0, ⟨y1, y2, y3⟩, y4, y5, y6⟩ := HR.out _ hb1
  rcases hr with ⟨rfl, hno⟩ | ⟨k, hk, rfl, hno, hp⟩
  · have HE := Lib.hid (bof_none hno)
    clear hno
    go_wp2_with fail
    refine bodyPost_ret (v := .tuple #[.agg #[.string ⟨#[]⟩, .slice none 0 0, .bool false], .bool false]) (by simp [results, Try.results26, go_sem, y1, y2, y3]) rfl ?_
    have hs : ∀ E, Below w.heap.size w1 E → BoPost m.bs s w (.returned (.tuple #[.agg #[.string ⟨#[]⟩, .slice none 0 0, .bool false], .bool false])) E := by
      intro E hE2
      refine ⟨_, [], by rw [HE.out], by rw [HE.out]; exact ⟨_, rfl, none, 0, 0, rfl, rfl, Nat.le_refl _, Nat.zero_le _, .inl ⟨rfl, rfl⟩⟩, by simp, (HW.out.trans (hb1.mono HW.out.size)).trans hE2⟩
    refine hs _ ?_
    repeat (first | exact Below.refl _ _ | refine Below.setCell ?_ (by (first | omega | (simp; omega) | (simp; done) | fail "sml")) _)
  · have HE := Lib.hid (bof_at hk hno hp)
    have hk2 : (k : Int) < (m.bs.length : Int) := by omega
    obtain ⟨bb, off, q, c, rfl, hbb, c0, c1, c2, hin⟩ := kBn_get (HB3.out _ hb1) hk
    have hnx := bn_need hn hk
    obtain ⟨x, ex⟩ : ∃ x, x = m.bs[k] := ⟨_, rfl⟩
    rw [← ex] at c0 c1 c2 hin HE hnx
    have HIN := Lib.hid hin
    clear ex hin hno hp
    go_wp2_with fail
    refine (copyBind_any x _ W.heap.size w1 ⟨_, rfl, HIN.out⟩ hs1 hnx).mono ?_
    rintro e w2 ⟨u, F, rfl, hx, hF, hb2⟩
    have hb12 := hb1.trans (hb2.mono hs1)
    have hs2 := hb2.size
    obtain ⟨pf, cf, rfl⟩ := hx.at.form
    have HX := Lib.hid hx
    have HXF := Lib.hid hF
    have HWB := Lib.hid (HW.out.trans (hb12.mono HW.out.size))
    clear y0 y1 y2 y3 y4 y5 y6 hx hF hb2
    obtain ⟨y0, ⟨y1, y2, y3⟩, y4, y5, y6⟩ := HR.out _ hb12
    go_wp2_with fail
    refine bodyPost_ret (v := .tuple #[.agg #[.string x.v, .slice pf x.ids.length cf, .bool x.g], .bool true]) (by simp [results, Try.results26, go_sem, y1, y2, y3]) rfl ?_
    have hs : ∀ E, Chg [w.heap.size + 1] w2 E → Below w.heap.size w2 E → BoPost m.bs s w (.returned (.tuple #[.agg #[.string x.v, .slice pf x.ids.length cf, .bool x.g], .bool true])) E := by
      intro E hE hE2
      refine ⟨_, F, by rw [HE.out], by rw [HE.out]; exact HX.out.chg hE (fun y hy => by have := HXF.out y hy; simp; omega), fun y hy => by have := HXF.out y hy; omega, HWB.out.trans hE2⟩
    refine hs _ ?_ ?_
    · repeat (first | exact Chg.refl _ _ | refine Chg.setCell ?_ (by simp) _)
    · repeat (first | exact Below.refl _ _ | refine Below.setCell ?_ (by (first | omega | (simp; omega) | (simp; done) | fail "sml")) _)

set_option maxRecDepth 100000 in
set_option maxHeartbeats 4000000 in
theorem specBindOf_any (m : Mt) (v : Value) (s : ByteArray) (B : Nat) (w : World) (hm : m.At B w v) (hB : B ≤ w.heap.size) (hn : sumBn m.bs ≤ 1048576) :
    Calls Try.prog 25 #[v, .string s] w (BoPost m.bs s w) := by
  obtain ⟨a1, a2, a3, rfl, _, _, h3⟩ := hm
  have H3 := Lib.hid h3
  obtain ⟨p, cap, rfl⟩ := h3.form
  clear h3
  go_enter Try.func25, Try.ntmps25
  go_wp2_with fail
  obtain ⟨W, eW⟩ : ∃ E, E = (w.alloc (.cells #[a1, a2, .slice p m.bs.length cap] 41)).alloc (.cells #[.string ⟨#[]⟩, .slice none 0 0, .bool false] 45) := ⟨_, rfl⟩
  have zW : w.heap.size + 1 < W.heap.size := by rw [eW]; simp
  have hbW : Below w.heap.size w W := by rw [eW]; exact ((Below.refl _ _).alloc (Nat.le_refl _) _).alloc (by simp) _
  have HC := Lib.hid (show W.cell? ⟨w.heap.size, 2, none⟩ = some (.slice p m.bs.length cap) ∧ (W.cell? ⟨w.heap.size + 1, 0, none⟩ = some (.string ⟨#[]⟩) ∧ W.cell? ⟨w.heap.size + 1, 1, none⟩ = some (.slice none 0 0) ∧ W.cell? ⟨w.heap.size + 1, 2, none⟩ = some (.bool false)) ∧ W.frozen? ⟨w.heap.size + 1, 0, none⟩ = false ∧ W.frozen? ⟨w.heap.size + 1, 1, none⟩ = false ∧ W.frozen? ⟨w.heap.size + 1, 2, none⟩ = false by
    rw [eW]; exact ⟨by simp [go_sem], ⟨by simp [go_sem], by simp [go_sem], by simp [go_sem]⟩, by simp [go_sem], by simp [go_sem], by simp [go_sem]⟩)
  rw [← eW]
  clear eW
  have HR := Lib.hid (fun (E : World) (hE : Below W.heap.size W E) => (show E.cell? ⟨w.heap.size, 2, none⟩ = some (.slice p m.bs.length cap) ∧ (E.cell? ⟨w.heap.size + 1, 0, none⟩ = some (.string ⟨#[]⟩) ∧ E.cell? ⟨w.heap.size + 1, 1, none⟩ = some (.slice none 0 0) ∧ E.cell? ⟨w.heap.size + 1, 2, none⟩ = some (.bool false)) ∧ E.frozen? ⟨w.heap.size + 1, 0, none⟩ = false ∧ E.frozen? ⟨w.heap.size + 1, 1, none⟩ = false ∧ E.frozen? ⟨w.heap.size + 1, 2, none⟩ = false from
    ⟨keepc hE (by omega) HC.out.1, ⟨keepc hE zW HC.out.2.1.1, keepc hE zW HC.out.2.1.2.1, keepc hE zW HC.out.2.1.2.2⟩, (hE.frozen (p := ⟨w.heap.size + 1, 0, none⟩) zW).trans HC.out.2.2.1, (hE.frozen (p := ⟨w.heap.size + 1, 1, none⟩) zW).trans HC.out.2.2.2.1, (hE.frozen (p := ⟨w.heap.size + 1, 2, none⟩) zW).trans HC.out.2.2.2.2⟩))
  have HB3 := Lib.hid (fun (E : World) (hE : Below W.heap.size W E) => (show kBn.Rd W.heap.size E (.slice p m.bs.length cap) m.bs from (H3.out.to (hbW.mono hB) (show B ≤ W.heap.size by omega)).to hE (Nat.le_refl _)))
  have HW := Lib.hid hbW
  have r0 := Below.refl W.heap.size W
  clear hbW
  obtain ⟨y0, ⟨y1, y2, y3⟩, y4, y5, y6⟩ := HR.out _ r0
  go_wp2_with fail
  refine (l6Find_any m.bs _ s W.heap.size W (HB3.out _ r0) (Nat.le_refl _)).mono ?_
  rintro e w1 ⟨r, rfl, hr, hb1⟩
  have hs1 := hb1.size
  clear y0 y1 y2 y3 y4 y5 y6
  obtain ⟨y0, ⟨y1, y2, y3⟩, y4, y5, y6⟩ := HR.out _ hb1
  rcases hr with ⟨rfl, hno⟩ | ⟨k, hk, rfl, hno, hp⟩
  · have HE := Lib.hid (bof_none hno)
    clear hno
    go_wp2_with fail
    refine bodyPost_ret (v := .tuple #[.agg #[.string ⟨#[]⟩, .slice none 0 0, .bool false], .bool false]) (by simp [results, Try.results25, go_sem, y1, y2, y3]) rfl ?_
    have hs : ∀ E, Below w.heap.size w1 E → BoPost m.bs s w (.returned (.tuple #[.agg #[.string ⟨#[]⟩, .slice none 0 0, .bool false], .bool false])) E := by
      intro E hE2
      refine ⟨_, [], by rw [HE.out], by rw [HE.out]; exact ⟨_, rfl, none, 0, 0, rfl, rfl, Nat.le_refl _, Nat.zero_le _, .inl ⟨rfl, rfl⟩⟩, by simp, (HW.out.trans (hb1.mono HW.out.size)).trans hE2⟩
    refine hs _ ?_
    repeat (first | exact Below.refl _ _ | refine Below.setCell ?_ (by (first | omega | (simp; omega) | (simp; done) | fail "sml")) _)
  · have HE := Lib.hid (bof_at hk hno hp)
    have hk2 : (k : Int) < (m.bs.length : Int) := by omega
    obtain ⟨bb, off, q, c, rfl, hbb, c0, c1, c2, hin⟩ := kBn_get (HB3.out _ hb1) hk
    have hnx := bn_need hn hk
    obtain ⟨x, ex⟩ : ∃ x, x = m.bs[k] := ⟨_, rfl⟩
    rw [← ex] at c0 c1 c2 hin HE hnx
    have HIN := Lib.hid hin
    clear ex hin hno hp
    go_upto_region 5 with fail
    obtain ⟨W5, eW5⟩ : ∃ E, E = w1.alloc (.cells #[.string x.v, .slice q x.ids.length c, .bool x.g] 45) := ⟨_, rfl⟩
    have hl5 : Below w1.heap.size w1 W5 := by rw [eW5]; exact (Below.refl _ _).alloc (Nat.le_refl _) _
    have z5 : w1.heap.size < W5.heap.size := by rw [eW5]; simp
    have HC5 := Lib.hid (show W5.cell? ⟨w1.heap.size, 0, none⟩ = some (.string x.v) ∧ W5.cell? ⟨w1.heap.size, 1, none⟩ = some (.slice q x.ids.length c) ∧ W5.cell? ⟨w1.heap.size, 2, none⟩ = some (.bool x.g) by rw [eW5]; exact ⟨by simp [go_sem], by simp [go_sem], by simp [go_sem]⟩)
    rw [← eW5]
    clear eW5
    have r5 : Below W.heap.size W W5 := hb1.trans (hl5.mono hs1)
    have KS := Lib.hid (fun (E : World) (hE : Below W5.heap.size W5 E) => (show E.cell? ⟨w1.heap.size, 0, none⟩ = some (.string x.v) ∧ E.cell? ⟨w1.heap.size, 1, none⟩ = some (.slice q x.ids.length c) ∧ E.cell? ⟨w1.heap.size, 2, none⟩ = some (.bool x.g) from ⟨keepc hE z5 HC5.out.1, keepc hE z5 HC5.out.2.1, keepc hE z5 HC5.out.2.2⟩))
    have HIN5 := Lib.hid (fun (E : World) (hE : Below W5.heap.size W5 E) => (show Sl 1 intCells W5.heap.size E (.slice q x.ids.length c) x.ids from ((HIN.out.mono hs1).below hl5 |>.mono (by omega)).below hE))
    clear y0 y1 y2 y3 y4 y5 y6 c0 c1 c2
    refine wp_region_E (last := 10) (S := fun w' => w'.cell? ⟨w1.heap.size, 0, none⟩ = some (.string x.v) ∧ w'.cell? ⟨w1.heap.size, 1, none⟩ = some (.slice q x.ids.length c) ∧ w'.cell? ⟨w1.heap.size, 2, none⟩ = some (.bool x.g)) (by kernel_rfl) ?_ (fun hHeld => ?_)
    · exact KS.out _ ((Below.refl _ _).drew)
    have cW : Below W5.heap.size W5 W5.drew := (Below.refl _ _).drew
    generalize W5.drew = W0 at cW hHeld ⊢
    have yW := cW.size
    (refine takeE (i := 0) (v := ?_) [9] rfl (by kernel_rfl) (by kernel_rfl) (fun _ _ _ h => h) (Or.inl ⟨by kernel_rfl, ?_⟩) (by assumption) ?_; rotate_left; (focus (intro w hSw; (try dsimp only at hSw); go_simp; first | done | with_reducible rfl | fail "takeE")); (try simp only [Act.put, List.setIfInBounds_toArray, List.set_cons_zero, List.set_cons_succ]))
    (refine takeE (i := 1) (v := ?_) [9] rfl (by kernel_rfl) (by kernel_rfl) (fun _ _ _ h => h) (Or.inl ⟨by kernel_rfl, ?_⟩) (by assumption) ?_; rotate_left; (focus (intro w hSw; (try dsimp only at hSw); go_simp; first | done | with_reducible rfl | fail "takeE")); (try simp only [Act.put, List.setIfInBounds_toArray, List.set_cons_zero, List.set_cons_succ]))
    (refine takeE (i := 3) (v := ?_) [9] rfl (by kernel_rfl) (by kernel_rfl) (fun _ _ _ h => h) (Or.inl ⟨by kernel_rfl, ?_⟩) (by assumption) ?_; rotate_left; (focus (intro w hSw; (try dsimp only at hSw); go_simp; first | done | with_reducible rfl | fail "takeE")); (try simp only [Act.put, List.setIfInBounds_toArray, List.set_cons_zero, List.set_cons_succ]))
    (refine takeE (i := 4) (v := ?_) [9] rfl (by kernel_rfl) (by kernel_rfl) (fun _ _ _ h => h) (Or.inl ⟨by kernel_rfl, ?_⟩) (by assumption) ?_; rotate_left; (focus (intro w hSw; (try dsimp only at hSw); go_simp; first | done | with_reducible rfl | fail "takeE")); (try simp only [Act.put, List.setIfInBounds_toArray, List.set_cons_zero, List.set_cons_succ]))
    (refine takeE (i := 6) (v := ?_) [9] rfl (by kernel_rfl) (by kernel_rfl) (fun _ _ _ h => h) (Or.inl ⟨by kernel_rfl, ?_⟩) (by assumption) ?_; rotate_left; (focus (intro w hSw; (try dsimp only at hSw); go_simp; first | done | with_reducible rfl | fail "takeE")); (try simp only [Act.put, List.setIfInBounds_toArray, List.set_cons_zero, List.set_cons_succ]))
    (refine takeE (i := 7) (v := ?_) [9] rfl (by kernel_rfl) (by kernel_rfl) (fun _ _ _ h => h) (Or.inl ⟨by kernel_rfl, ?_⟩) (by assumption) ?_; rotate_left; (focus (intro w hSw; (try dsimp only at hSw); go_simp; first | done | with_reducible rfl | fail "takeE")); (try simp only [Act.put, List.setIfInBounds_toArray, List.set_cons_zero, List.set_cons_succ]))
    refine oneE (i := 2) rfl (by kernel_rfl) (by kernel_rfl) (fun K hK => ?_)
    go_simp
    obtain ⟨W2, eW2⟩ : ∃ E, E = W0.alloc (.cells #[] 3) := ⟨_, rfl⟩
    have hl2 : Below W0.heap.size W0 W2 := by rw [eW2]; exact (Below.refl _ _).alloc (Nat.le_refl _) _
    rw [← eW2]
    clear eW2
    have cW2 : Below W5.heap.size W5 W2 := cW.trans (hl2.mono yW)
    have yW2 := cW2.size
    refine hK.out _ _ (KS.out _ cW2) (fun hHeld => ?_)
    clear hK K
    (try simp only [Act.put, List.setIfInBounds_toArray, List.set_cons_zero, List.set_cons_succ])
    refine oneE (i := 5) rfl (by kernel_rfl) (by kernel_rfl) (fun K hK => ?_)
    refine wp_app (.tmp 22) (.tmp 24) 23 (by rfl) _ _ (by rfl) (by rfl) _ (onto_none (OwnI.empty W2 _) (HIN5.out W2 cW2) (by omega) _) ?_
    rintro v' W3 ⟨F3, o3, h3, k3⟩
    obtain ⟨pf, cf, rfl⟩ := OwnI.form o3
    have cW3 : Below W5.heap.size W5 W3 := cW2.trans (k3.mono cW2.size)
    have yW3 := k3.size
    have HX := Lib.hid (show x.Has (.agg #[.string x.v, .slice pf x.ids.length cf, .bool x.g]) F3 W3 from ⟨_, rfl, OwnI.own o3⟩)
    have HXF := Lib.hid h3
    have HWB := Lib.hid (HW.out.trans ((r5.trans (cW3.mono r5.size)).mono HW.out.size))
    clear o3 h3
    refine hK.out _ _ (KS.out _ cW3) (fun hHeld => ?_)
    clear hK K
    (try simp only [Act.put, List.setIfInBounds_toArray, List.set_cons_zero, List.set_cons_succ])
    (refine takeE (i := 8) (v := ?_) [9] rfl (by kernel_rfl) (by kernel_rfl) (fun _ _ _ h => h) (Or.inl ⟨by kernel_rfl, ?_⟩) (by assumption) ?_; rotate_left; (focus (intro w hSw; (try dsimp only at hSw); go_simp; first | done | with_reducible rfl | fail "takeE")); (try simp only [Act.put, List.setIfInBounds_toArray, List.set_cons_zero, List.set_cons_succ]))
    refine oneE (i := 9) rfl (by kernel_rfl) (by kernel_rfl) (fun K hK => ?_)
    obtain ⟨y0, ⟨y1, y2, y3⟩, y4, y5, y6⟩ := HR.out _ (r5.trans (cW3.mono r5.size))
    go_simp
    refine hK.out _ _ ?_ (fun hHeld => ?_)
    · have hs : ∀ E, Chg [w.heap.size + 1] W3 E → E.cell? ⟨w1.heap.size, 0, none⟩ = some (.string x.v) ∧ E.cell? ⟨w1.heap.size, 1, none⟩ = some (.slice q x.ids.length c) ∧ E.cell? ⟨w1.heap.size, 2, none⟩ = some (.bool x.g) := by
        intro E hE
        exact ⟨hE.cellOf (by simp; omega) (KS.out _ cW3).1, hE.cellOf (by simp; omega) (KS.out _ cW3).2.1, hE.cellOf (by simp; omega) (KS.out _ cW3).2.2⟩
      refine hs _ ?_
      repeat (first | exact Chg.refl _ _ | refine Chg.setCell ?_ (by simp) _)
    clear hK K
    (try simp only [Act.put, List.setIfInBounds_toArray, List.set_cons_zero, List.set_cons_succ])
    refine lastE rfl (by kernel_rfl) (by kernel_rfl) (fun K hK => ?_)
    go_simp
    refine hK.out _ _ ?_
    clear hK K
    refine doneE (by kernel_rfl) ?_ _
    go_wp2_with fail
    refine bodyPost_ret (v := .tuple #[.agg #[.string x.v, .slice pf x.ids.length cf, .bool x.g], .bool true]) (by simp [results, Try.results25, go_sem, y1, y2, y3]) rfl ?_
    have hs : ∀ E, Chg [w.heap.size + 1] W3 E → Below w.heap.size W3 E → BoPost m.bs s w (.returned (.tuple #[.agg #[.string x.v, .slice pf x.ids.length cf, .bool x.g], .bool true])) E := by
      intro E hE hE2
      refine ⟨_, F3, by rw [HE.out], by rw [HE.out]; exact HX.out.chg hE (fun y hy => by have := HXF.out y hy; simp; omega), fun y hy => by have := HXF.out y hy; omega, HWB.out.trans hE2⟩
    refine hs _ ?_ ?_
    · repeat (first | exact Chg.refl _ _ | refine Chg.setCell ?_ (by simp) _)
    · repeat (first | exact Below.refl _ _ | refine Below.setCell ?_ (by (first | omega | (simp; omega) | (simp; done) | fail "sml")) _)
end Go.Proofs.Ytchhobphockhhaa
