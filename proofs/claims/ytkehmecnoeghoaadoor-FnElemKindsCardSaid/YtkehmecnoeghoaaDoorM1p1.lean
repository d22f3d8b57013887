/- Lemmas on the data and the memory of this program's values: several texts in one. -/
import Derived.Test.YtkehmecnoeghoaaDoorNum
import Derived.Test.YtkehmecnoeghoaaDoorM0p1
import Derived.Test.YtkehmecnoeghoaaDoorL1D
import Derived.Test.YtkehmecnoeghoaaDoorM0p2
import Derived.RegionTactic
import Derived.ProofKit
import Derived.LaidMore
import Derived.LaidHandle
import Derived.MakeChecks
import Derived.Stop.LaidErr
import Derived.Stop.Joined
import Derived.Lib.LaidTab
namespace Go.Proofs.YtkehmecnoeghoaaDoor
open Go.RowKit

theorem dl_all : ∀ r : List UInt8, r.all isD = true → dl r = r.length
  | [], _ => rfl
  | c :: r, h => by
    rw [List.all_cons, Bool.and_eq_true] at h
    rw [dl, if_pos h.1, dl_all r h.2]; rfl
theorem take_dl : ∀ r : List UInt8, (r.take (dl r)).all isD = true
  | [] => rfl
  | c :: r => by
    rw [dl]
    by_cases hc : isD c = true
    · rw [if_pos hc, List.take_succ_cons, List.all_cons, hc, take_dl r]; rfl
    · rw [if_neg hc]; rfl
theorem digits_one {a : ByteArray} {c : UInt8} {r : List UInt8} (hl : a.data.toList = c :: r) : digits a 1 = r.take (dl r) := by
  unfold digits; rw [hl]; rfl
theorem drop_one {a : ByteArray} {c : UInt8} {r : List UInt8} (hl : a.data.toList = c :: r) : a.data.toList.drop 1 = r := by rw [hl]; rfl
theorem size_of {a : ByteArray} {c : UInt8} {r : List UInt8} (hl : a.data.toList = c :: r) : a.size = 1 + r.length := by
  have := congrArg List.length hl
  simp at this; omega
theorem signAt_zero {a : ByteArray} : signAt a 0 false = match a.data.toList with | c :: _ => if isS c then some c else none | [] => none := by
  unfold signAt
  cases a.data.toList <;> rfl
theorem sign_none {a : ByteArray} (h : signAt a 0 false = none) : condOf a.data.toList = none := by
  rw [signAt_zero] at h
  rw [cond_of]
  cases hl : a.data.toList with
  | nil => rfl
  | cons c r =>
    rw [hl] at h
    by_cases hc : isS c = true
    · simp [hc] at h
    · simp [hc]
theorem sign_some {a : ByteArray} {c : UInt8} (h : signAt a 0 false = some c) : isS c = true ∧ ∃ r, a.data.toList = c :: r := by
  rw [signAt_zero] at h
  cases hl : a.data.toList with
  | nil => rw [hl] at h; cases h
  | cons d r =>
    rw [hl] at h
    by_cases hc : isS d = true
    · simp [hc] at h; subst h; exact ⟨hc, r, rfl⟩
    · simp [hc] at h
theorem cond_cons {a : ByteArray} {c : UInt8} {r : List UInt8} (hl : a.data.toList = c :: r) (hc : isS c = true) : condOf a.data.toList = (num99 r).map fun n => (c, n) := by
  rw [cond_of, hl]; simp [hc]
theorem split_bad {a : ByteArray} {c : UInt8} {r : List UInt8} (hl : a.data.toList = c :: r) (hc : isS c = true) (hn : numOf (digits a 1) = none) : condOf a.data.toList = none := by
  rw [cond_cons hl hc]
  cases h : num99 r with
  | none => rfl
  | some n =>
    have hd := (num99_of h).2.2
    rw [digits_one hl, dl_all r hd, List.take_length, numOf_99 h] at hn
    cases hn
theorem split_end {a : ByteArray} {c : UInt8} {r : List UInt8} {v : Int} (hl : a.data.toList = c :: r) (hc : isS c = true) (hn : numOf (digits a 1) = some v) (he : 1 + dl (a.data.toList.drop 1) = a.size) :
    condB a = decide (v ≤ 99) ∧ ∀ s n, condOf a.data.toList = some (s, n) → c = s ∧ v = n := by
  rw [drop_one hl, size_of hl] at he
  have hdl : dl r = r.length := by omega
  have hall : r.all isD = true := by have := take_dl r; rwa [hdl, List.take_length] at this
  rw [digits_one hl, hdl, List.take_length] at hn
  unfold condB
  rw [cond_cons hl hc]
  cases h : num99 r with
  | none =>
    refine ⟨?_, fun s n e => by cases e⟩
    have : ¬ v ≤ 99 := fun h9 => by rw [numOf_small hn hall h9] at h; cases h
    rw [decide_eq_false this]; rfl
  | some n =>
    have e := numOf_99 h
    rw [hn] at e
    have e := Option.some.inj e
    have hlt := (num99_of h).1
    refine ⟨?_, fun s m e2 => ?_⟩
    · rw [decide_eq_true (by omega : v ≤ 99)]; rfl
    · simp only [Option.map_some, Option.some.injEq, Prod.mk.injEq] at e2
      exact ⟨e2.1, by rw [e, e2.2]⟩
theorem split_more {a : ByteArray} {c : UInt8} {r : List UInt8} (hl : a.data.toList = c :: r) (hc : isS c = true) (he : 1 + dl (a.data.toList.drop 1) ≠ a.size) : condOf a.data.toList = none := by
  rw [drop_one hl, size_of hl] at he
  rw [cond_cons hl hc]
  cases h : num99 r with
  | none => rfl
  | some n => exact absurd (dl_all r (num99_of h).2.2) (by omega)

def SplitPost (a : ByteArray) (w : World) (e : Ending) (w' : World) : Prop :=
  ∃ (c v : Int), e = .returned (.tuple #[.int .u8 c, .int .i64 v, .bool (condB a)]) ∧ (∀ s n, condOf a.data.toList = some (s, n) → c = s.toNat ∧ v = n) ∧ Below w.heap.size w w'
theorem splitPost_no {a : ByteArray} {w w' : World} {c v : Int} (h : condOf a.data.toList = none) (hb : Below w.heap.size w w') : SplitPost a w (.returned (.tuple #[.int .u8 c, .int .i64 v, .bool false])) w' :=
  ⟨c, v, by unfold condB; rw [h]; rfl, (fun s n e => by rw [h] at e; cases e), hb⟩
set_option maxRecDepth 100000 in
set_option maxHeartbeats 2000000 in
theorem splitCond_any (a : ByteArray) (w : World) (hs : a.size ≤ 1048576) (hv : Vars w) : Calls Tryd.prog 57 #[.string a] w (SplitPost a w) := by
  have HV := Lib.hid (hv.below ((Below.refl w.heap.size w).alloc (Nat.le_refl _) (.cells #[.string a, .int .i64 0, .bool false] 87)))
  clear hv
  go_enter Tryd.func57, Tryd.ntmps57
  go_wp2_with fail
  have HR := Lib.hid (show Rdr w.heap.size a 0 false (w.alloc (.cells #[.string a, .int .i64 0, .bool false] 87)) from Blk.new w #[.string a, .int .i64 0, .bool false] 87)
  have HB := Lib.hid ((Below.refl w.heap.size w).alloc (Nat.le_refl _) (.cells #[.string a, .int .i64 0, .bool false] 87))
  refine (takeSign_any w.heap.size a 0 false _ HR.out (by unfold maxLen; omega) (by omega)).mono ?_
  rintro e w1 hpost
  have hb1 : Below w.heap.size w w1 := by
    rcases hpost with ⟨c, _, _, _, hc⟩ | ⟨_, _, _, hc⟩ <;> exact HB.out.trans (hc.below (by simp) (by simp))
  have HB1 := Lib.hid hb1
  have HV1 := Lib.hid (show Vars w1 by rcases hpost with ⟨c, _, _, _, hc⟩ | ⟨_, _, _, hc⟩ <;> exact HV.out.rdr HR.out hc)
  clear hb1
  rcases hpost with ⟨c, hsg, rfl, hr1, hc1⟩ | ⟨hsg, rfl, hr1, hc1⟩
  · have HR1 := Lib.hid hr1
    obtain ⟨hcS, r, hl⟩ := sign_some hsg
    have HL := Lib.hid hl
    have HS := Lib.hid hcS
    have hsz := size_of hl
    clear hr1 hc1 hsg hl hcS
    go_wp2_with fail
    refine (takeNumber_any w.heap.size a 1 false _ HR1.out (by omega) (by omega) HV1.out).mono ?_
    rintro e w2 ⟨hc2, hpost⟩
    have HB2 := Lib.hid (HB1.out.trans ((hc2.below (B := w.heap.size) HB1.out.size (by simp))))
    clear hc2
    rcases hpost with ⟨v, hn, rfl, hr2⟩ | ⟨hn, rfl, hr2⟩
    · have HN := Lib.hid hn
      have HR2 := Lib.hid hr2
      obtain ⟨D, eD⟩ : ∃ D, D = dl (a.data.toList.drop 1) := ⟨_, rfl⟩
      rw [← eD] at HR2
      by_cases he : 1 + D = a.size
      · have hpure := split_end HL.out HS.out HN.out (by rw [← eD]; exact he)
        have HP := Lib.hid hpure
        have HF := Lib.hid (show ended a (1 + D) false = true by unfold ended; rw [decide_eq_true he]; rfl)
        clear hn hr2 hpure eD
        go_wp2_with fail
        refine (finished_any w.heap.size a (1 + D) false _ HR2.out).mono ?_
        rintro e w3 ⟨rfl, n, rfl⟩
        rw [HF.out]
        go_wp2_with fail
        refine bodyPost_ret (v := .tuple #[.int .u8 c.toNat, .int .i64 v, .bool (decide (v ≤ 99))]) (by simp [results, Tryd.results57, go_sem]) rfl ?_
        exact ⟨_, _, by rw [HP.out.1], (fun s n h => ⟨by rw [(HP.out.2 s n h).1], (HP.out.2 s n h).2⟩), HB2.out.trans ((chgN w.heap.size w2 n).below (B := w.heap.size) HB2.out.size (by simp))⟩
      · have HP := Lib.hid (split_more HL.out HS.out (by rw [← eD]; exact he))
        have HF := Lib.hid (show ended a (1 + D) false = false by unfold ended; rw [decide_eq_false he]; rfl)
        clear hn hr2 eD
        go_wp2_with fail
        refine (finished_any w.heap.size a (1 + D) false _ HR2.out).mono ?_
        rintro e w3 ⟨rfl, n, rfl⟩
        rw [HF.out]
        go_wp2_with fail
        refine bodyPost_ret (v := .tuple #[.int .u8 c.toNat, .int .i64 v, .bool false]) (by simp [results, Tryd.results57, go_sem]) rfl ?_
        exact splitPost_no HP.out (HB2.out.trans ((chgN w.heap.size w2 n).below (B := w.heap.size) HB2.out.size (by simp)))
    · have HP := Lib.hid (split_bad HL.out HS.out hn)
      have HR2 := Lib.hid hr2
      obtain ⟨D, eD⟩ : ∃ D, D = dl (a.data.toList.drop 1) := ⟨_, rfl⟩
      rw [← eD] at HR2
      have HF := Lib.hid (show ended a (1 + D) true = false from rfl)
      clear hn hr2 eD
      go_wp2_with fail
      refine (finished_any w.heap.size a (1 + D) true _ HR2.out).mono ?_
      rintro e w3 ⟨rfl, n, rfl⟩
      rw [HF.out]
      go_wp2_with fail
      refine bodyPost_ret (v := .tuple #[.int .u8 c.toNat, .int .i64 0, .bool false]) (by simp [results, Tryd.results57, go_sem]) rfl ?_
      exact splitPost_no HP.out (HB2.out.trans ((chgN w.heap.size w2 n).below (B := w.heap.size) HB2.out.size (by simp)))
  · have HR1 := Lib.hid hr1
    have HP := Lib.hid (sign_none hsg)
    clear hr1 hc1 hsg
    go_wp2_with fail
    refine (takeNumber_any w.heap.size a 0 true _ HR1.out (by omega) (by omega) HV1.out).mono ?_
    rintro e w2 ⟨hc2, hpost⟩
    have HB2 := Lib.hid (HB1.out.trans ((hc2.below (B := w.heap.size) HB1.out.size (by simp))))
    clear hc2
    obtain ⟨D, v, rfl, hr2⟩ : ∃ (D : Nat) (v : Int), e = .returned (.int .i64 v) ∧ Rdr w.heap.size a D true w2 := by
      rcases hpost with ⟨v, hn, rfl, hr2⟩ | ⟨hn, rfl, hr2⟩
      · exact ⟨_, _, rfl, hr2⟩
      · exact ⟨_, _, rfl, hr2⟩
    have HR2 := Lib.hid hr2
    have HF := Lib.hid (show ended a D true = false from rfl)
    clear hr2 hpost
    go_wp2_with fail
    refine (finished_any w.heap.size a D true _ HR2.out).mono ?_
    rintro e w3 ⟨rfl, n, rfl⟩
    rw [HF.out]
    go_wp2_with fail
    refine bodyPost_ret (v := .tuple #[.int .u8 0, .int .i64 v, .bool false]) (by simp [results, Tryd.results57, go_sem]) rfl ?_
    exact splitPost_no HP.out (HB2.out.trans ((chgN w.heap.size w2 n).below (B := w.heap.size) HB2.out.size (by simp)))

set_option maxRecDepth 100000 in
set_option maxHeartbeats 400000 in
theorem exprAtomValid_any (a : ByteArray) (kind : Int) (w : World) (hs : a.size ≤ 1048576) (hv : Vars w) :
    Calls Tryd.prog 68 #[.string a, .int .i64 kind] w fun e w' => e = .returned (.bool (atomB kind a)) ∧ Below w.heap.size w w' := by
  have HV := Lib.hid hv
  clear hv
  by_cases hk : kind = 1
  · subst hk
    go_enter Tryd.func68, Tryd.ntmps68
    go_wp2_with fail
    refine (labelValid_any a _ (by unfold maxLen; omega)).mono ?_
    rintro e w1 ⟨rfl, rfl⟩
    go_wp2_with fail
    go_ret
    exact ⟨by rw [show atomB 1 a = lv a from rfl]; rfl, Below.refl _ _⟩
  · have hk1 : (kind == 1) = false := beq_eq_false_iff_ne.2 hk
    have HA := Lib.hid (show atomB kind a = condB a by unfold atomB; rw [if_neg hk])
    go_enter Tryd.func68, Tryd.ntmps68
    go_wp2_with fail
    refine (splitCond_any a _ hs HV.out).mono ?_
    rintro e w1 ⟨c, v, rfl, _, hb⟩
    have HB := Lib.hid hb
    clear hb
    go_wp2_with fail
    go_ret
    exact ⟨by rw [HA.out]; rfl, HB.out⟩
end Go.Proofs.YtkehmecnoeghoaaDoor
namespace Go.Proofs.YtkehmecnoeghoaaDoor
open Go.RowKit

/-- A drawn graph in memory of the call's own, from block lo on. -/
def GD (g : Gr) (v : Value) (F : List Nat) (lo : Nat) (w : World) : Prop := g.Has v F w ∧ (∀ y ∈ F, lo ≤ y) ∧ g.Ok ∧ g.ns.length ≤ 1000 ∧ g.es.length ≤ 1000
/-- A drawn walk. -/
def WD (x : Wk) (v : Value) (F : List Nat) (lo : Nat) (w : World) : Prop := x.Has v F w ∧ (∀ y ∈ F, lo ≤ y) ∧ x.need ≤ 40
def DrewGW (a N : Nat) (w : World) (e : Ending) (w' : World) : Prop :=
  ∃ (g : Gr) (vg : Value) (Fg : List Nat) (x : Wk) (vx : Value) (Fx : List Nat), e = .returned (.tuple #[vg, vx]) ∧ GD g vg Fg w.heap.size w' ∧ WD x vx Fx w.heap.size w' ∧ x.ns.length = x.es.length + 1 ∧ x.es.length ≤ 5 ∧ Dr w' a (N + 7010) ∧ Chg [a] w w'
theorem GD.chg {g : Gr} {v : Value} {F G : List Nat} {lo : Nat} {w w' : World} (h : GD g v F lo w) (hc : Chg G w w') (hG : ∀ x ∈ G, x < lo) : GD g v F lo w' :=
  ⟨h.1.chg hc (fun x hx hm => by have := hG x hm; have := h.2.1 x hx; omega), h.2⟩
theorem WD.chg {x : Wk} {v : Value} {F G : List Nat} {lo : Nat} {w w' : World} (h : WD x v F lo w) (hc : Chg G w w') (hG : ∀ x ∈ G, x < lo) : WD x v F lo w' :=
  ⟨h.1.chg hc (fun x hx hm => by have := hG x hm; have := h.2.1 x hx; omega), h.2⟩
theorem GD.lo {g : Gr} {v : Value} {F : List Nat} {lo lo' : Nat} {w : World} (h : GD g v F lo w) (hl : lo' ≤ lo) : GD g v F lo' w := ⟨h.1, fun y hy => Nat.le_trans hl (h.2.1 y hy), h.2.2⟩
theorem WD.lo {x : Wk} {v : Value} {F : List Nat} {lo lo' : Nat} {w : World} (h : WD x v F lo w) (hl : lo' ≤ lo) : WD x v F lo' w := ⟨h.1, fun y hy => Nat.le_trans hl (h.2.1 y hy), h.2.2⟩
theorem Gr.Has.form {g : Gr} {v : Value} {F : List Nat} {w : World} (h : g.Has v F w) : ∃ p c q d, v = .agg #[.slice p g.ns.length c, .slice q g.es.length d] := by
  obtain ⟨a, b, rfl, h1, h2⟩ := h.at
  obtain ⟨p, c, rfl⟩ := h1.form
  obtain ⟨q, d, rfl⟩ := h2.form
  exact ⟨p, c, q, d, rfl⟩
theorem Wk.Has.form {x : Wk} {v : Value} {F : List Nat} {w : World} (h : x.Has v F w) : ∃ p c q d, v = .agg #[.slice p x.ns.length c, .slice q x.es.length d] := h.at.form
/-- A hop's two cells. -/
theorem Sl.hq {B : Nat} {w : World} {p : Option Addr} {len cap : Nat} {xs : List (Int × Int)} (h : Sl 2 hqCells B w (.slice p len cap) xs) {k : Nat} (hk : k < xs.length) :
    ∃ b off, p = some ⟨b, off, none⟩ ∧ b < B ∧ w.cell? ⟨b, off + k * 2, none⟩ = some (.int .i64 xs[k].1) ∧ w.cell? ⟨b, off + k * 2 + 1, none⟩ = some (.int .i64 xs[k].2) := by
  obtain ⟨p', len', cap', h1, h2, h3, h4, h5⟩ := h
  cases h1
  obtain ⟨b, off, e1, e2, e3⟩ := h5 k hk
  exact ⟨b, off, e1, e2, e3 0 _ rfl, e3 1 _ rfl⟩
/-- A row of one, made by a list of one. -/
theorem ownOne (E : World) (q : Int) : OwnS 1 intCells 3 (E.alloc (.cells #[.int .i64 q] 3)) (.slice (some ⟨E.heap.size, 0, none⟩) 1 1) [q] [E.heap.size] :=
  ⟨_, 1, rfl, Nat.le_refl _, by unfold maxLen; omega, .inr ⟨E.heap.size, _, rfl, rfl, heap_alloc_new E _, rfl, by simp [flt, intCells]⟩⟩

theorem OwnS.mem {α : Type} {sz : Nat} {enc : α → List Value} {e : TypeId} {w : World} {b o len cap : Nat} {xs : List α} {F : List Nat} (h : OwnS sz enc e w (.slice (some ⟨b, o, none⟩) len cap) xs F) (hx : xs ≠ []) : b ∈ F := by
  obtain ⟨p, c, e1, h2, h3, h4⟩ := h
  cases e1
  rcases h4 with ⟨h, _⟩ | ⟨b', cur, e2, rfl, _⟩
  · exact absurd h hx
  · cases e2; simp

end Go.Proofs.YtkehmecnoeghoaaDoor
namespace Go.Proofs.YtkehmecnoeghoaaDoor
open Go.RowKit

def WrongW (a N M : Nat) (w : World) (e : Ending) (w' : World) : Prop :=
  ∃ (y : Wk) (u : Value) (F : List Nat), e = .returned u ∧ (y.Has u F w' ∧ (∀ z ∈ F, w.heap.size ≤ z) ∧ y.need ≤ M + 1) ∧ Dr w' a (N + 3) ∧ Chg [a] w w'
/-- A place of the first row: its cell, and what a store leaves. -/
theorem Two.cellA {ns es : List Int} {b lo : Nat} {p : Option Addr} {n c : Nat} {v2 : Value} {E : World} (h : WTwo ns es b lo (.slice p n c) v2 E) {q : Nat} (hq : q < ns.length) :
    ∃ bx, p = some ⟨bx, 0, none⟩ ∧ (lo ≤ bx ∧ bx ≠ b) ∧ E.cell? ⟨bx, q, none⟩ = some (.int .i64 ns[q]) ∧ E.frozen? ⟨bx, q, none⟩ = false ∧
      ∀ z : Int, ∃ F, (⟨ns.set q z, es⟩ : Wk).Has (.agg #[.slice p n c, v2]) F (E.setCell ⟨bx, q, none⟩ (.int .i64 z)) ∧ ∀ y ∈ F, lo ≤ y := by
  obtain ⟨⟨h1, h2⟩, ⟨h3, h4⟩, ⟨h5, h6⟩, F1, F2, h7, h8, h9, h10, h11⟩ := h
  have o1 := OwnS.own (enc := intCells) (fun _ => rfl) h7
  have o2 := OwnS.own (enc := intCells) (fun _ => rfl) h8
  obtain ⟨p', c', e1, g2, g3, g4⟩ := h7
  cases e1
  rcases g4 with ⟨rfl, _⟩ | ⟨bx, cur, rfl, rfl, hg, hs, ht⟩
  · simp at hq
  refine ⟨bx, rfl, h9 bx (by simp), ?_, by simp [World.frozen?, hg], fun z => ?_⟩
  · obtain ⟨b', off, e, _, hc⟩ := o1.sl.it hq
    cases e
    simpa using hc
  · refine ⟨[bx] ++ F2, ⟨_, _, [bx], F2, rfl, rfl, ?_, o2.chg (G := [bx]) ((Chg.refl _ _).setCell (by simp) _) (fun y hy hm => ?_), h11⟩, fun y hy => ?_⟩
    · have := o1.store1 (k := q) hq (fun _ => rfl) z (.int .i64 z) rfl
      rw [Nat.zero_add] at this
      exact this
    · simp at hm; subst hm; exact h11 _ (by simp) hy
    · rcases List.mem_append.1 hy with h | h
      · exact (h9 y h).1
      · exact (h10 y h).1
theorem OwnSl.cut {α : Type} {enc : α → List Value} {sz : Nat} {w : World} {p : Option Addr} {len cap : Nat} {xs : List α} {F : List Nat} (h : OwnSl sz enc w (.slice p len cap) xs F) {k : Nat} (hk : k ≤ xs.length) : OwnSl sz enc w (.slice p k cap) (xs.take k) F := by
  obtain ⟨p', len', cap', h1, h2, h3, h4, h5⟩ := h
  cases h1
  refine ⟨p, k, cap, rfl, by simp; omega, by omega, h4, ?_⟩
  rcases h5 with ⟨rfl, rfl⟩ | ⟨b, off, rfl, rfl, h6, h7, h8⟩
  · exact .inl ⟨by simp, rfl⟩
  · refine .inr ⟨b, off, rfl, rfl, h6, h7, fun i hi j x hx => ?_⟩
    simp only [List.length_take] at hi
    rw [List.getElem_take] at hx
    exact h8 i (by omega) j x hx

end Go.Proofs.YtkehmecnoeghoaaDoor
namespace Go.Proofs.YtkehmecnoeghoaaDoor
open Go.RowKit

/-- A drawn graph and a drawn walk. -/
def CaseGW (w : World) (e : Ending) (w' : World) : Prop :=
  ∃ (g : Gr) (vg : Value) (Fg : List Nat) (x : Wk) (vx : Value) (Fx : List Nat), e = .returned (.tuple #[vg, vx]) ∧ GD g vg Fg w.heap.size w' ∧ WD x vx Fx w.heap.size w' ∧ Below w.heap.size w w'
def CaseW (w : World) (e : Ending) (w' : World) : Prop :=
  ∃ (x : Wk) (vx : Value) (Fx : List Nat), e = .returned vx ∧ WD x vx Fx w.heap.size w' ∧ Below w.heap.size w w'
theorem Chg.of0 {a b : World} (h : Chg [] a b) : Below a.heap.size a b := h.below (Nat.le_refl _) (by simp)

end Go.Proofs.YtkehmecnoeghoaaDoor
namespace Go.Proofs.YtkehmecnoeghoaaDoor
open Go.RowKit

theorem tES : (Tryd.prog.globals[2]?).map (·.type) = some 95 := by kernel_rfl
theorem tER : (Tryd.prog.globals[3]?).map (·.type) = some 95 := by kernel_rfl
theorem tPT : (Tryd.prog.globals[4]?).map (·.type) = some 126 := by kernel_rfl
theorem laid_iface {W : World} {n nm : String} {d : DataW Unit} {r : List (String × DataW Unit)} {g ti : Nat} {ms : Array (String × TypeId)} (hg : Tryd.prog.globalNamed n = some g) (hty : (Tryd.prog.globals[g]?).map (·.type) = some ti) (hti : Tryd.prog.underlying ti = some (.interface ms))
    (h : laidMet Tryd.prog ((n, .iface nm d) :: r) W) : ∃ tp p, W.var? Tryd.prog n = some #[.iface tp p] := by
  obtain ⟨ps, ⟨g', t', cs, fuel, p, q, hg', ht', hvar, hd, _, _⟩, _⟩ := h
  obtain rfl := Option.some.inj (hg.symm.trans hg')
  obtain rfl := Option.some.inj (hty.symm.trans ht')
  obtain ⟨_, u, v, hcs, _, _⟩ := iface_of_trod hti hd
  refine ⟨u, v, ?_⟩
  rw [hvar, Array.eq_one_of_toList hcs]
end Go.Proofs.YtkehmecnoeghoaaDoor
