/- Lemmas on the data and the memory of this program's values: several texts in one. -/
import Derived.Test.YtghhabailgfelaaDoorM0p1
import Derived.Lib.AppendZeros
import Derived.Lib.AppendZerosOnto
import Derived.Deep.RegionHeld3
import Derived.Deep.DeepCutAuto
import Derived.StillTailTactics
import Derived.Test.YtghhabailgfelaaDoorRows
import Derived.ProofKit
import Derived.WalkKit
import Derived.Lib.Hide
import Derived.LaidEql
import Derived.Laws.StructEq
import Derived.Maps.Own
import Derived.Maps.OwnOps
namespace Go.Proofs.YtghhabailgfelaaDoor
open Go.RowKit

theorem grown_of_below {w w' : World} (h : Below w.heap.size w w') : w.grownBy w' none := ⟨h.os, h.tape, h.output, h.size, fun k hk _ => h.block k hk⟩
theorem ownsRow_below {w w' : World} {base : Nat} {e : TypeId} {size : Nat} {v : Value} {n : Nat} {xs : List Value} (h : w.ownsRow base e size v n xs) (hb : Below w.heap.size w w') : w'.ownsRow base e size v n xs :=
  h.kept (grown_of_below hb) (Classical.em _)
theorem own_of_row {w : World} {base : Nat} {e : TypeId} {v : Value} {xs : List Int} (h : w.ownsRow base e 1 v xs.length (xs.map (Value.int .i64))) : ∃ F, OwnSl 1 intCells w v xs F ∧ ∀ x ∈ F, base ≤ x := by
  obtain ⟨hl, h⟩ := h
  rcases h with ⟨rfl, h0⟩ | ⟨g, cap, cur, rfl, hb, hg, hn, hc, hs, ht⟩
  · exact ⟨[], ⟨none, 0, 0, rfl, h0.symm, Nat.le_refl _, Nat.zero_le _, .inl ⟨List.eq_nil_of_length_eq_zero h0, rfl⟩⟩, by simp⟩
  · refine ⟨[g], ⟨_, _, _, rfl, rfl, hn, hc, .inr ⟨g, 0, rfl, rfl, (Array.getElem?_eq_some_iff.1 hg).1, fun o => by simp [World.frozen?, hg], fun i hi j x hx => ?_⟩⟩, by simpa using hb⟩
    have hj : j = 0 := by
      have := (List.getElem?_eq_some_iff.1 hx).1
      simp [intCells] at this; omega
    subst hj
    have hx' : x = .int .i64 xs[i] := by simpa [intCells] using hx.symm
    have e1 : (cur.toList.take (xs.length * 1))[i]? = some (.int .i64 xs[i]) := by rw [ht]; simp [hi]
    rw [List.getElem?_take_of_lt (by omega)] at e1
    simp only [World.cell?, hg, Nat.zero_add, Nat.mul_one, Nat.add_zero]
    rw [hx', ← e1]; simp

/-- The places i < k whose edge answers yes. -/
def pick (p : Ed → Bool) (es : List Ed) : Nat → List Int
  | 0 => []
  | k + 1 => if (es[k]?.map p).getD false then pick p es k ++ [(k : Int)] else pick p es k
theorem pick_yes {p : Ed → Bool} {es : List Ed} {k : Nat} (h : k < es.length) (hp : p es[k] = true) : pick p es (k + 1) = pick p es k ++ [(k : Int)] := by
  simp [pick, List.getElem?_eq_getElem h, hp]
theorem pick_no {p : Ed → Bool} {es : List Ed} {k : Nat} (h : k < es.length) (hp : p es[k] = false) : pick p es (k + 1) = pick p es k := by
  simp [pick, List.getElem?_eq_getElem h, hp]
theorem pick_le (p : Ed → Bool) (es : List Ed) : ∀ k, (pick p es k).length ≤ k
  | 0 => Nat.le_refl _
  | k + 1 => by have := pick_le p es k; unfold pick; split <;> simp <;> omega
theorem gv_len {g : Gr} (h : gv g = true) : g.es.length ≤ 14 := by
  unfold gv at h
  simp only [Bool.and_eq_true, decide_eq_true_eq] at h
  omega
theorem infoInt : (Tryd.prog.info? 3).map (fun i => (i.zero, i.size, i.bytes)) = some (some (.int .i64 0), 1, 8) := by kernel_rfl

def byOut (node : Int) (x : Ed) : Bool := x.f == node
def edgesOut (g : Gr) (node : Int) : List Int := if gv g then pick (byOut node) g.es g.es.length else []

set_option maxHeartbeats 400000 in
theorem fnOut_any (x : Ed) (node : Int) (c : Nat) (w : World) (hc : w.cell? ⟨c, 0, none⟩ = some (.int .i64 node)) :
    Calls Tryd.prog 45 #[.agg #[.int .i64 x.f, .int .i64 x.t, .string x.l, .int .i64 x.n], .pointer (some ⟨c, 0, none⟩)] w fun e w' => e = .returned (.bool (byOut node x)) ∧ Below w.heap.size w w' := by
  have hlt := World.block_lt_of_cell? w _ hc
  go_enter Tryd.func45, Tryd.ntmps45
  go_wp2_with fail
  go_ret
  exact ⟨rfl, (Below.refl _ _).alloc (Nat.le_refl _) _⟩

set_option maxRecDepth 100000 in
set_option maxHeartbeats 1000000 in
theorem edgesWhereOut_any (g : Gr) (v : Value) (node : Int) (c : Nat) (B : Nat) (w : World) (hg : g.At B w v) (hB : B ≤ w.heap.size) (hok : g.Ok) (hc : w.cell? ⟨c, 0, none⟩ = some (.int .i64 node)) :
    Calls Tryd.prog 44 #[v, .func (.func 45) #[] #[.pointer (some ⟨c, 0, none⟩)]] w fun e w' => ∃ v' F, e = .returned v' ∧ OwnSl 1 intCells w' v' (edgesOut g node) F ∧ (∀ x ∈ F, w.heap.size ≤ x) ∧ Below w.heap.size w w' := by
  have HG := Lib.hid hg
  have hcl : c < w.heap.size := World.block_lt_of_cell? w _ hc
  obtain ⟨a, b, rfl, ha, hb⟩ := hg
  obtain ⟨p, cap, rfl⟩ := hb.form
  have hm := hb.max
  unfold maxLen at hm
  obtain ⟨i0, hi, hz0, hz1, hz2⟩ := info_parts infoInt
  go_enter Tryd.func44, Tryd.ntmps44
  go_wp2_with fail
  have HV := Lib.hid ((Below.refl w.heap.size w).alloc (Nat.le_refl _) (.cells #[a, .slice p g.es.length cap] 26))
  refine (graphValid_any g _ B _ (HG.out.below (HV.out.mono hB)) (by simp; omega) hok).mono ?_
  rintro e w1 ⟨rfl, hb1⟩
  have hs1 : w.heap.size < w1.heap.size := by have := hb1.size; simp at this; omega
  have c1 := new_cell hb1 (j := 1) rfl
  have HB1 := Lib.hid (below_past hb1)
  clear hb1
  by_cases hgv : gv g = true
  · have h14 := gv_len hgv
    have HE := Lib.hid (show edgesOut g node = pick (byOut node) g.es g.es.length by unfold edgesOut; rw [if_pos hgv])
    go_wp2_with fail
    clear c1
    go_loopw [5, 14] (fun fnd i wr => ∃ k : Nat, k ≤ g.es.length ∧ i = .int .i64 k ∧ wr.ownsRow w.heap.size 3 1 fnd (pick (byOut node) g.es k).length ((pick (byOut node) g.es k).map (Value.int .i64)) ∧ Below w.heap.size w wr) (fun _ i _ => g.es.length - (intOf i).toNat)
    case atStart => exact ⟨0, Nat.zero_le _, rfl, World.ownsRow_nil _ _ _ _, HB1.out⟩
    case round =>
      obtain ⟨k, hk, rfl, hown, hbw⟩ := hrel
      have hsz := hbw.size
      have HB := Lib.hid hbw
      have HO := Lib.hid hown
      have hpl := pick_le (byOut node) g.es k
      clear hbw hown
      by_cases hlt : k < g.es.length
      · obtain ⟨b, off, rfl, hbb, c0, c1, c2, c3⟩ := (hb.below (HB.out.mono hB)).ed hlt
        have hyes := Lib.hid (fun h => pick_yes (p := byOut node) hlt h)
        have hno := Lib.hid (fun h => pick_no (p := byOut node) hlt h)
        obtain ⟨x, ex⟩ : ∃ x, x = g.es[k] := ⟨_, rfl⟩
        rw [← ex] at c0 c1 c2 c3 hyes hno
        clear ex
        go_wp2_with fail
        refine (fnOut_any x node c _ (keepc (HB.out.alloc hsz _) hcl hc)).mono ?_
        rintro e w2 ⟨rfl, hb2⟩
        have hs2 : wr.heap.size < w2.heap.size := by have := hb2.size; simp at this; omega
        have HO2 := Lib.hid (ownsRow_below (HO.out.alloc _) hb2)
        have HB2 := Lib.hid (HB.out.trans ((below_past hb2).mono hsz))
        clear hb2
        cases hy : byOut node x with
        | true =>
          have HY := Lib.hid (hyes.out hy)
          clear hyes hno
          go_wp2_with (at_builtin; refine wpList_append_own _ rfl _ _ 48 rfl w.heap.size 3 i0 (.int .i64 0) 1 8 Tryd.underlying48 hi hz0 hz1 hz2 rfl (by decide) _ _ _ rfl (HO2.out.alloc _) ⟨w2.heap.size, 0, none⟩ 1 1 [.int .i64 k] rfl rfl ?c1 ?c2 ?c3 ?c4 ?c5 ?_)
          case c1 =>
            intro j u hj
            match j, hj with
            | 0, hj => simp at hj; subst hj; simp [Addr.add]
          case c2 => intro u hu; simp at hu; subst hu; rfl
          case c3 => unfold maxLen; omega
          case c4 => omega
          case c5 => simp; omega
          intro v' w3 hown3 hgrow _
          have HB3 := Lib.hid ((HB2.out.alloc (by omega) (.cells #[.int .i64 (k : Int)] 3)).grown hgrow (by simp; omega) (fun q hq => (HO2.out.lt q hq).1))
          have HO3 := Lib.hid (show w3.ownsRow w.heap.size 3 1 v' (pick (byOut node) g.es (k + 1)).length ((pick (byOut node) g.es (k + 1)).map (Value.int .i64)) by rw [HY.out]; simpa using hown3)
          clear hown3 hgrow
          go_wp2_with fail
          go_roundw
          case rel => exact ⟨k + 1, by omega, by go_num, HO3.out, HB3.out⟩
          case measure => simp [intOf]; omega
        | false =>
          have HY := Lib.hid (hno.out hy)
          clear hyes hno
          go_wp2_with fail
          go_roundw
          case rel => exact ⟨k + 1, by omega, by go_num, by rw [HY.out]; exact HO2.out, HB2.out⟩
          case measure => simp [intOf]; omega
      · obtain rfl : k = g.es.length := by omega
        go_wp2_with fail
        go_ret
        obtain ⟨F, h1, h2⟩ := own_of_row HO.out
        exact ⟨_, F, rfl, by rw [HE.out]; exact h1, h2, HB.out⟩
  · have HE := Lib.hid (show edgesOut g node = [] by unfold edgesOut; rw [if_neg hgv])
    go_wp2_with fail
    go_ret
    exact ⟨_, [], rfl, by rw [HE.out]; exact ⟨none, 0, 0, rfl, rfl, Nat.le_refl _, Nat.zero_le _, .inl ⟨rfl, rfl⟩⟩, by simp, HB1.out⟩

set_option maxHeartbeats 400000 in
theorem outEdges_any (g : Gr) (v : Value) (node : Int) (B : Nat) (w : World) (hg : g.At B w v) (hB : B ≤ w.heap.size) (hok : g.Ok) :
    Calls Tryd.prog 21 #[v, .int .i64 node] w fun e w' => ∃ v' F, e = .returned v' ∧ OwnSl 1 intCells w' v' (edgesOut g node) F ∧ (∀ x ∈ F, w.heap.size ≤ x) ∧ Below w.heap.size w w' := by
  have HG := Lib.hid hg
  obtain ⟨a, b, rfl, ha, hb⟩ := hg
  go_enter Tryd.func21, Tryd.ntmps21
  go_wp2_with fail
  have HV := Lib.hid (((Below.refl w.heap.size w).alloc (Nat.le_refl _) (.cells #[a, b] 26)).alloc (by simp) (.cells #[.int .i64 node] 3))
  refine (edgesWhereOut_any g _ node _ B _ (HG.out.below (HV.out.mono hB)) (by simp; omega) hok (by simp [go_sem])).mono ?_
  rintro e w1 ⟨v1, F, rfl, ho, hf, hb1⟩
  have HO := Lib.hid ho
  have HF := Lib.hid hf
  have HB1 := Lib.hid (HV.out.trans (hb1.mono (by simp; omega)))
  clear ho hf hb1
  go_wp2_with fail
  go_ret
  exact ⟨_, F, rfl, HO.out, fun x hx => by have := HF.out x hx; simp at this; omega, HB1.out⟩

def byIn (node : Int) (x : Ed) : Bool := x.t == node
def edgesIn (g : Gr) (node : Int) : List Int := if gv g then pick (byIn node) g.es g.es.length else []

set_option maxHeartbeats 400000 in
theorem fnIn_any (x : Ed) (node : Int) (c : Nat) (w : World) (hc : w.cell? ⟨c, 0, none⟩ = some (.int .i64 node)) :
    Calls Tryd.prog 46 #[.agg #[.int .i64 x.f, .int .i64 x.t, .string x.l, .int .i64 x.n], .pointer (some ⟨c, 0, none⟩)] w fun e w' => e = .returned (.bool (byIn node x)) ∧ Below w.heap.size w w' := by
  have hlt := World.block_lt_of_cell? w _ hc
  go_enter Tryd.func46, Tryd.ntmps46
  go_wp2_with fail
  go_ret
  exact ⟨rfl, (Below.refl _ _).alloc (Nat.le_refl _) _⟩

set_option maxRecDepth 100000 in
set_option maxHeartbeats 1000000 in
theorem edgesWhereIn_any (g : Gr) (v : Value) (node : Int) (c : Nat) (B : Nat) (w : World) (hg : g.At B w v) (hB : B ≤ w.heap.size) (hok : g.Ok) (hc : w.cell? ⟨c, 0, none⟩ = some (.int .i64 node)) :
    Calls Tryd.prog 44 #[v, .func (.func 46) #[] #[.pointer (some ⟨c, 0, none⟩)]] w fun e w' => ∃ v' F, e = .returned v' ∧ OwnSl 1 intCells w' v' (edgesIn g node) F ∧ (∀ x ∈ F, w.heap.size ≤ x) ∧ Below w.heap.size w w' := by
  have HG := Lib.hid hg
  have hcl : c < w.heap.size := World.block_lt_of_cell? w _ hc
  obtain ⟨a, b, rfl, ha, hb⟩ := hg
  obtain ⟨p, cap, rfl⟩ := hb.form
  have hm := hb.max
  unfold maxLen at hm
  obtain ⟨i0, hi, hz0, hz1, hz2⟩ := info_parts infoInt
  go_enter Tryd.func44, Tryd.ntmps44
  go_wp2_with fail
  have HV := Lib.hid ((Below.refl w.heap.size w).alloc (Nat.le_refl _) (.cells #[a, .slice p g.es.length cap] 26))
  refine (graphValid_any g _ B _ (HG.out.below (HV.out.mono hB)) (by simp; omega) hok).mono ?_
  rintro e w1 ⟨rfl, hb1⟩
  have hs1 : w.heap.size < w1.heap.size := by have := hb1.size; simp at this; omega
  have c1 := new_cell hb1 (j := 1) rfl
  have HB1 := Lib.hid (below_past hb1)
  clear hb1
  by_cases hgv : gv g = true
  · have h14 := gv_len hgv
    have HE := Lib.hid (show edgesIn g node = pick (byIn node) g.es g.es.length by unfold edgesIn; rw [if_pos hgv])
    go_wp2_with fail
    clear c1
    go_loopw [5, 14] (fun fnd i wr => ∃ k : Nat, k ≤ g.es.length ∧ i = .int .i64 k ∧ wr.ownsRow w.heap.size 3 1 fnd (pick (byIn node) g.es k).length ((pick (byIn node) g.es k).map (Value.int .i64)) ∧ Below w.heap.size w wr) (fun _ i _ => g.es.length - (intOf i).toNat)
    case atStart => exact ⟨0, Nat.zero_le _, rfl, World.ownsRow_nil _ _ _ _, HB1.out⟩
    case round =>
      obtain ⟨k, hk, rfl, hown, hbw⟩ := hrel
      have hsz := hbw.size
      have HB := Lib.hid hbw
      have HO := Lib.hid hown
      have hpl := pick_le (byIn node) g.es k
      clear hbw hown
      by_cases hlt : k < g.es.length
      · obtain ⟨b, off, rfl, hbb, c0, c1, c2, c3⟩ := (hb.below (HB.out.mono hB)).ed hlt
        have hyes := Lib.hid (fun h => pick_yes (p := byIn node) hlt h)
        have hno := Lib.hid (fun h => pick_no (p := byIn node) hlt h)
        obtain ⟨x, ex⟩ : ∃ x, x = g.es[k] := ⟨_, rfl⟩
        rw [← ex] at c0 c1 c2 c3 hyes hno
        clear ex
        go_wp2_with fail
        refine (fnIn_any x node c _ (keepc (HB.out.alloc hsz _) hcl hc)).mono ?_
        rintro e w2 ⟨rfl, hb2⟩
        have hs2 : wr.heap.size < w2.heap.size := by have := hb2.size; simp at this; omega
        have HO2 := Lib.hid (ownsRow_below (HO.out.alloc _) hb2)
        have HB2 := Lib.hid (HB.out.trans ((below_past hb2).mono hsz))
        clear hb2
        cases hy : byIn node x with
        | true =>
          have HY := Lib.hid (hyes.out hy)
          clear hyes hno
          go_wp2_with (at_builtin; refine wpList_append_own _ rfl _ _ 48 rfl w.heap.size 3 i0 (.int .i64 0) 1 8 Tryd.underlying48 hi hz0 hz1 hz2 rfl (by decide) _ _ _ rfl (HO2.out.alloc _) ⟨w2.heap.size, 0, none⟩ 1 1 [.int .i64 k] rfl rfl ?c1 ?c2 ?c3 ?c4 ?c5 ?_)
          case c1 =>
            intro j u hj
            match j, hj with
            | 0, hj => simp at hj; subst hj; simp [Addr.add]
          case c2 => intro u hu; simp at hu; subst hu; rfl
          case c3 => unfold maxLen; omega
          case c4 => omega
          case c5 => simp; omega
          intro v' w3 hown3 hgrow _
          have HB3 := Lib.hid ((HB2.out.alloc (by omega) (.cells #[.int .i64 (k : Int)] 3)).grown hgrow (by simp; omega) (fun q hq => (HO2.out.lt q hq).1))
          have HO3 := Lib.hid (show w3.ownsRow w.heap.size 3 1 v' (pick (byIn node) g.es (k + 1)).length ((pick (byIn node) g.es (k + 1)).map (Value.int .i64)) by rw [HY.out]; simpa using hown3)
          clear hown3 hgrow
          go_wp2_with fail
          go_roundw
          case rel => exact ⟨k + 1, by omega, by go_num, HO3.out, HB3.out⟩
          case measure => simp [intOf]; omega
        | false =>
          have HY := Lib.hid (hno.out hy)
          clear hyes hno
          go_wp2_with fail
          go_roundw
          case rel => exact ⟨k + 1, by omega, by go_num, by rw [HY.out]; exact HO2.out, HB2.out⟩
          case measure => simp [intOf]; omega
      · obtain rfl : k = g.es.length := by omega
        go_wp2_with fail
        go_ret
        obtain ⟨F, h1, h2⟩ := own_of_row HO.out
        exact ⟨_, F, rfl, by rw [HE.out]; exact h1, h2, HB.out⟩
  · have HE := Lib.hid (show edgesIn g node = [] by unfold edgesIn; rw [if_neg hgv])
    go_wp2_with fail
    go_ret
    exact ⟨_, [], rfl, by rw [HE.out]; exact ⟨none, 0, 0, rfl, rfl, Nat.le_refl _, Nat.zero_le _, .inl ⟨rfl, rfl⟩⟩, by simp, HB1.out⟩

set_option maxHeartbeats 400000 in
theorem inEdges_any (g : Gr) (v : Value) (node : Int) (B : Nat) (w : World) (hg : g.At B w v) (hB : B ≤ w.heap.size) (hok : g.Ok) :
    Calls Tryd.prog 22 #[v, .int .i64 node] w fun e w' => ∃ v' F, e = .returned v' ∧ OwnSl 1 intCells w' v' (edgesIn g node) F ∧ (∀ x ∈ F, w.heap.size ≤ x) ∧ Below w.heap.size w w' := by
  have HG := Lib.hid hg
  obtain ⟨a, b, rfl, ha, hb⟩ := hg
  go_enter Tryd.func22, Tryd.ntmps22
  go_wp2_with fail
  have HV := Lib.hid (((Below.refl w.heap.size w).alloc (Nat.le_refl _) (.cells #[a, b] 26)).alloc (by simp) (.cells #[.int .i64 node] 3))
  refine (edgesWhereIn_any g _ node _ B _ (HG.out.below (HV.out.mono hB)) (by simp; omega) hok (by simp [go_sem])).mono ?_
  rintro e w1 ⟨v1, F, rfl, ho, hf, hb1⟩
  have HO := Lib.hid ho
  have HF := Lib.hid hf
  have HB1 := Lib.hid (HV.out.trans (hb1.mono (by simp; omega)))
  clear ho hf hb1
  go_wp2_with fail
  go_ret
  exact ⟨_, F, rfl, HO.out, fun x hx => by have := HF.out x hx; simp at this; omega, HB1.out⟩
end Go.Proofs.YtghhabailgfelaaDoor
namespace Go.Proofs.YtghhabailgfelaaDoor
open Go.RowKit

/-- The cells of flat elements, one behind the other. -/
def flat {α : Type} (enc : α → List Value) (xs : List α) : List Value := xs.flatMap enc
theorem flat_length {α : Type} {enc : α → List Value} {sz : Nat} (h : ∀ x, (enc x).length = sz) : ∀ xs : List α, (flat enc xs).length = xs.length * sz
  | [] => by simp [flat]
  | x :: xs => by
    have := flat_length h xs
    simp only [flat, List.flatMap_cons, List.length_append, List.length_cons] at *
    rw [h, this, Nat.succ_mul]; omega
theorem flat_append {α : Type} (enc : α → List Value) (xs ys : List α) : flat enc (xs ++ ys) = flat enc xs ++ flat enc ys := by simp [flat]
theorem flat_at {α : Type} {enc : α → List Value} {sz : Nat} (h : ∀ x, (enc x).length = sz) : ∀ (xs : List α) (i : Nat) (hi : i < xs.length) (j : Nat) (x : Value), (enc xs[i])[j]? = some x → (flat enc xs)[i * sz + j]? = some x
  | x :: xs, 0, _, j, v, hv => by
    have hj : j < (enc x).length := (List.getElem?_eq_some_iff.1 hv).1
    simp only [flat, List.flatMap_cons, Nat.zero_mul, Nat.zero_add]
    rw [List.getElem?_append_left hj]; exact hv
  | x :: xs, i + 1, hi, j, v, hv => by
    have := flat_at h xs i (by simpa using hi) j v (by simpa using hv)
    simp only [flat, List.flatMap_cons]
    rw [List.getElem?_append_right (by rw [h, Nat.succ_mul]; omega), h]
    rw [show (i + 1) * sz + j - sz = i * sz + j by rw [Nat.succ_mul]; omega]; exact this
theorem flat_back {α : Type} {enc : α → List Value} {sz : Nat} (h : ∀ x, (enc x).length = sz) : ∀ (xs : List α) (q : Nat) (v : Value), (flat enc xs)[q]? = some v → ∃ i, ∃ hi : i < xs.length, ∃ j, q = i * sz + j ∧ (enc xs[i])[j]? = some v
  | [], q, v, hv => by simp [flat] at hv
  | x :: xs, q, v, hv => by
    simp only [flat, List.flatMap_cons] at hv
    by_cases hq : q < sz
    · rw [List.getElem?_append_left (by rw [h]; exact hq)] at hv
      exact ⟨0, by simp, q, by simp, by simpa using hv⟩
    · rw [List.getElem?_append_right (by rw [h]; omega), h] at hv
      obtain ⟨i, hi, j, e, hj⟩ := flat_back h xs (q - sz) v hv
      exact ⟨i + 1, by simpa using hi, j, by rw [Nat.succ_mul]; omega, by simpa using hj⟩
/-- A slice's cells, for a law on append. -/
theorem Sl.cells {α : Type} {enc : α → List Value} {sz : Nat} (h : ∀ x, (enc x).length = sz) {B : Nat} {w : World} {p : Option Addr} {len cap : Nat} {xs : List α} (hs : Sl sz enc B w (.slice p len cap) xs) :
    ∀ ad, p = some ad → ∀ j u, (flat enc xs)[j]? = some u → w.cell? (ad.add j) = some u := by
  intro ad hp j u hu
  obtain ⟨p', len', cap', h1, h2, h3, h4, h5⟩ := hs
  cases h1
  obtain ⟨i, hi, k, rfl, hk⟩ := flat_back h xs j u hu
  obtain ⟨b, off, e1, e2, e3⟩ := h5 i hi
  rw [e1] at hp
  cases hp
  rw [WideShapes.add_plain, ← Nat.add_assoc]
  exact e3 k u hk
theorem Sl.atNone {α : Type} {enc : α → List Value} {sz : Nat} {B : Nat} {w : World} {len cap : Nat} {xs : List α} (hs : Sl sz enc B w (.slice none len cap) xs) : len = 0 := by
  obtain ⟨p', len', cap', h1, h2, h3, h4, h5⟩ := hs
  cases h1
  rw [h2]
  cases xs with
  | nil => rfl
  | cons x xs => obtain ⟨b, off, e1, _⟩ := h5 0 (by simp); cases e1
/-- A row of the call's own, as owned elements. -/
theorem own_of_flat {α : Type} {enc : α → List Value} {sz : Nat} (hen : ∀ x, (enc x).length = sz) {w : World} {base : Nat} {e : TypeId} {v : Value} {n : Nat} {xs : List α} (hn : n = xs.length) (h : w.ownsRow base e sz v n (flat enc xs)) : ∃ F, OwnSl sz enc w v xs F ∧ ∀ x ∈ F, base ≤ x := by
  subst hn
  obtain ⟨hl, h⟩ := h
  rcases h with ⟨rfl, h0⟩ | ⟨g, cap, cur, rfl, hb, hg, hn, hc, hs, ht⟩
  · exact ⟨[], ⟨none, 0, 0, rfl, h0.symm, Nat.le_refl _, Nat.zero_le _, .inl ⟨List.eq_nil_of_length_eq_zero h0, rfl⟩⟩, by simp⟩
  · refine ⟨[g], ⟨_, _, _, rfl, rfl, hn, hc, .inr ⟨g, 0, rfl, rfl, (Array.getElem?_eq_some_iff.1 hg).1, fun o => by simp [World.frozen?, hg], fun i hi j x hx => ?_⟩⟩, by simpa using hb⟩
    have e1 := flat_at hen xs i hi j x hx
    have hj : j < sz := by rw [← hen xs[i]]; exact (List.getElem?_eq_some_iff.1 hx).1
    have hle : i * sz + sz ≤ xs.length * sz := by rw [← Nat.succ_mul]; exact Nat.mul_le_mul_right _ hi
    rw [← ht, List.getElem?_take_of_lt (by omega)] at e1
    simp only [World.cell?, hg, Nat.zero_add]
    rw [← e1]; simp

/-- The lengths of the first k parts, together. -/
def upTo {α : Type} (L : List (Value × List α)) (k : Nat) : Nat := ((L.take k).map fun x => x.2.length).sum
def joined {α : Type} (L : List (Value × List α)) (k : Nat) : List α := (L.take k).flatMap (·.2)
theorem upTo_succ {α : Type} (L : List (Value × List α)) {k : Nat} (h : k < L.length) : upTo L (k + 1) = upTo L k + L[k].2.length := by
  unfold upTo; rw [List.take_succ_eq_append_getElem h, List.map_append, List.sum_append]; simp
theorem joined_succ {α : Type} (L : List (Value × List α)) {k : Nat} (h : k < L.length) : joined L (k + 1) = joined L k ++ L[k].2 := by
  unfold joined; rw [List.take_succ_eq_append_getElem h, List.flatMap_append]; simp
theorem upTo_le {α : Type} (L : List (Value × List α)) (k : Nat) : upTo L k ≤ upTo L L.length := by
  unfold upTo
  have := congrArg (fun l => (l.map fun x : Value × List α => x.2.length).sum) (List.take_append_drop k L)
  simp only [List.map_append, List.sum_append] at this
  rw [List.take_of_length_le (Nat.le_refl _)]; omega
theorem joined_length {α : Type} (L : List (Value × List α)) : ∀ k, (joined L k).length = upTo L k
  | k => by unfold joined upTo; rw [List.length_flatMap]
theorem run_append_nil0 (w : World) (t ty e : TypeId) (i : TypeInfo) (ht : Tryd.prog.underlying t = some (.slice e)) (hi : Tryd.prog.info? e = some i) (p : Option Addr) (c : Nat) :
    (Builtin.append_ #[t, t] ty #[.slice none 0 0, .slice p 0 c]).run Tryd.prog w = .ok (.slice none 0 0) w := by
  have hf : (Builtin.firstCells i.size 0 (.slice p 0 c)).run Tryd.prog w = .ok #[] w := by
    cases p with
    | none => exact run_firstCells_none w i.size 0 0 c
    | some a => exact run_firstCells_some w i.size 0 a 0 c [] (by simp) (by simp)
  simp [Builtin.append_, run_underlying ht, sizeOf, typeInfo, hi, Builtin.lenOf, hf]
theorem run_append_room0 (w : World) (t ty e : TypeId) (i : TypeInfo) (ht : Tryd.prog.underlying t = some (.slice e)) (hi : Tryd.prog.info? e = some i) (a : Addr) (n gc c : Nat) (hn : n ≤ gc) :
    (Builtin.append_ #[t, t] ty #[.slice (some a) n gc, .slice none 0 c]).run Tryd.prog w = .ok (.slice (some a) n gc) w := by
  have hf := run_firstCells_none (P := Tryd.prog) w i.size 0 0 c
  simp [Builtin.append_, run_underlying ht, sizeOf, typeInfo, hi, Builtin.lenOf, hf, hn, storeCells]

set_option maxRecDepth 100000 in
set_option maxHeartbeats 2000000 in
theorem growNode_any (n : Nat) (w : World) (h0 : 0 < n) (h1 : n ≤ 3000000) :
    Calls Tryd.prog 69 #[.slice none 0 0, .int .i64 n] w fun e w' => ∃ cap, e = .returned (.slice (some ⟨w.heap.size, 0, none⟩) 0 cap) ∧ n ≤ cap ∧ w'.ownsRow w.heap.size 68 2 (.slice (some ⟨w.heap.size, 0, none⟩) 0 cap) 0 [] ∧ Below w.heap.size w w' := by
  obtain ⟨i0, hi, hz0, hz1, hz2⟩ := info_parts infoNode
  have hold : (Builtin.firstCells i0.size 0 (.slice none 0 0)).run Tryd.prog w.drew = .ok ([] : List Value).toArray w.drew := run_firstCells_none w.drew i0.size 0 0 0
  have hrz : ∀ ty, (Builtin.append_ #[23, 3] ty #[.slice none 0 0, .int .i64 (n : Int)]).run Tryd.prog w =
      .ok (.slice (some ⟨w.heap.size, 0, none⟩) n (grownCap w n 0 68)) (w.drew.alloc (.cells (Builtin.zeroCells (Value.agg #[.string ⟨#[]⟩, .int .i64 0]).cells n ++ Builtin.zeroCells (Value.agg #[.string ⟨#[]⟩, .int .i64 0]).cells (grownCap w n 0 68 - n)) 68)) := fun ty => by
    have h := Lib.run_append_grow_zeros w 23 3 ty 68 i0 _ .i64 .i64 Tryd.underlying23 Tryd.underlying3 hi hz0 none 0 0 [] hold n h0 (by rw [hz1]; decide) (by omega) (by omega)
      (by rw [hz2]; omega)
      (by rw [Nat.zero_add, hz2, nextslicecap_zero h0]; omega)
    rw [Nat.zero_add] at h
    simpa using h
  have hGn : n ≤ grownCap w n 0 68 := grownCap_ge w _ _ _
  have hG63 : grownCap w n 0 68 ≤ maxLen := grownCap_le_maxLen w n 0 68 (by unfold maxLen; omega)
  obtain ⟨G, hG⟩ : ∃ G, G = grownCap w n 0 68 := ⟨_, rfl⟩
  rw [← hG] at hrz hGn hG63
  clear hold hG
  have HO := Lib.hid (World.ownsRow_made (e := 68) (size := 2) w.drew (Builtin.zeroCells (Value.agg #[.string ⟨#[]⟩, .int .i64 0]).cells n ++ Builtin.zeroCells (Value.agg #[.string ⟨#[]⟩, .int .i64 0]).cells (G - n)) G (Nat.le_refl _) hG63
    (by rw [Array.size_append, size_zeroCells, size_zeroCells, ← Nat.add_mul, Nat.add_sub_cancel' hGn]; rfl))
  have hG63' : G ≤ 9223372036854775807 := by unfold maxLen at hG63; omega
  go_enter Tryd.func69, Tryd.ntmps69
  go_wp2_with (at_builtin; refine Lib.wpList_append_run _ rfl _ _ _ _ rfl _ _ rfl rfl _ _ (hrz _) ?_)
  go_ret
  exact ⟨G, rfl, hGn, HO.out, (Below.refl _ w).drew.alloc (Nat.le_refl _) _⟩

theorem flat_oneNode (xs : List Nd) : ∀ u ∈ flat Nd.cells xs, u.oneCell' = true := by
  intro u hu
  obtain ⟨x, _, hx⟩ := List.mem_flatMap.1 hu
  simp [Nd.cells] at hx
  rcases hx with rfl | rfl <;> rfl

set_option maxHeartbeats 400000 in
theorem growNode_zero (w : World) :
    Calls Tryd.prog 69 #[.slice none 0 0, .int .i64 0] w fun e w' => e = .returned (.slice none 0 0) ∧ w = w' := by
  go_enter Tryd.func69, Tryd.ntmps69
  go_wp2_with fail
  go_ret
  exact ⟨rfl, rfl⟩

set_option maxRecDepth 100000 in
set_option maxHeartbeats 4000000 in
theorem concatNode_any (L : List (Value × List Nd)) (b cap B : Nat) (w : World) (hc : ∀ i (hi : i < L.length), w.cell? ⟨b, i, none⟩ = some L[i].1) (hs : ∀ i (hi : i < L.length), Sl 2 Nd.cells B w L[i].1 L[i].2) (hB : B ≤ w.heap.size)
    (hlen : L.length ≤ 10) (htot : upTo L L.length ≤ 3000000) (hbw : b < w.heap.size) :
    Calls Tryd.prog 47 #[.slice (some ⟨b, 0, none⟩) L.length cap] w fun e w' => ∃ v' F, e = .returned v' ∧ OwnSl 2 Nd.cells w' v' (joined L L.length) F ∧ (∀ x ∈ F, w.heap.size ≤ x) ∧ Below w.heap.size w w' := by
  obtain ⟨i0, hi, hz0, hz1, hz2⟩ := info_parts infoNode
  have HCC := Lib.hid hc
  have HSS := Lib.hid hs
  clear hc hs
  go_enter Tryd.func47, Tryd.ntmps47
  go_wp2_with fail
  go_loop [3, 11] (fun z i => ∃ (k m : Nat), k ≤ L.length ∧ i = .int .i64 k ∧ z = .int .i64 m ∧ m ≤ 3000000 ∧ RowKit.Hid (m = upTo L k)) (fun _ i => L.length - (intOf i).toNat)
  case atStart => exact ⟨0, 0, Nat.zero_le _, rfl, rfl, by omega, Lib.hid (by simp [upTo])⟩
  case round =>
    obtain ⟨k, m, hk, rfl, rfl, hm, HM⟩ := hrel
    by_cases hlt : k < L.length
    · have c0 := HCC.out k hlt
      obtain ⟨p, cp, hf⟩ := (HSS.out k hlt).form
      have hmx := (hf ▸ HSS.out k hlt : Sl 2 Nd.cells B w (.slice p L[k].2.length cp) L[k].2).max
      rw [hf] at c0
      have hu := upTo_succ L hlt
      have hul := upTo_le L (k + 1)
      have HN := Lib.hid (show m + L[k].2.length = upTo L (k + 1) by have := HM.out; omega)
      have hb2 : m + L[k].2.length ≤ 3000000 := by have := HM.out; omega
      obtain ⟨n, en⟩ : ∃ n, n = L[k].2.length := ⟨_, rfl⟩
      rw [← en] at c0 HN hb2
      clear en hf hu hul hmx
      go_wp2_with fail
      go_round
      case rel => exact ⟨k + 1, m + n, by omega, by go_num, by go_num, hb2, HN⟩
      case measure => simp [intOf]; omega
    · obtain rfl : k = L.length := by omega
      by_cases hz : m = 0
      · subst hz
        have hz' : ∀ i (hi : i < L.length), L[i].2.length = 0 := fun i hi => by
          have h1 := upTo_succ L hi
          have h2 := upTo_le L (i + 1)
          have h3 := HM.out
          omega
        have HZ := Lib.hid hz'
        clear hz'
        go_wp2_with fail
        refine (growNode_zero _).mono ?_
        rintro e w1 ⟨rfl, rfl⟩
        go_wp2_with fail
        go_loopw [6, 27] (fun ns i wr => ∃ k : Nat, k ≤ L.length ∧ i = .int .i64 k ∧ ns = .slice none 0 0 ∧ wr = w) (fun _ i _ => L.length - (intOf i).toNat)
        case atStart => exact ⟨0, Nat.zero_le _, rfl, rfl, rfl⟩
        case round =>
          obtain ⟨k, hk, rfl, rfl, rfl⟩ := hrel
          by_cases hlt2 : k < L.length
          · have c0 := HCC.out k hlt2
            obtain ⟨p, cp, hf⟩ := (HSS.out k hlt2).form
            rw [hf, HZ.out k hlt2] at c0
            clear hf
            go_wp2_with (at_builtin; refine Lib.wpList_append_run _ rfl _ _ _ _ rfl _ _ rfl rfl _ _ (run_append_nil0 _ 23 _ 68 i0 Tryd.underlying23 hi p cp) ?_)
            go_roundw
            case rel => exact ⟨k + 1, by omega, by go_num, rfl, trivial⟩
            case measure => simp [intOf]; omega
          · obtain rfl : k = L.length := by omega
            go_wp2_with fail
            go_ret
            have hj : joined L L.length = [] := List.eq_nil_of_length_eq_zero (by rw [joined_length]; exact HM.out.symm)
            exact ⟨_, [], rfl, by rw [hj]; exact ⟨none, 0, 0, rfl, rfl, Nat.le_refl _, Nat.zero_le _, .inl ⟨rfl, rfl⟩⟩, by simp, Below.refl _ _⟩
      · have hmp : 0 < m := by omega
        go_wp2_with fail
        refine (growNode_any m _ hmp hm).mono ?_
        rintro e w1 ⟨gc, rfl, hgc, hown, hb1⟩
        have HO := Lib.hid hown
        have HB1 := Lib.hid hb1
        have hw1 : w.heap.size < w1.heap.size := by
          obtain ⟨_, h2⟩ := hown
          rcases h2 with ⟨h2, _⟩ | ⟨g, cp, cur, h2, hbb, hg, _⟩
          · cases h2
          · cases h2; exact (Array.getElem?_eq_some_iff.1 hg).1
        clear hown hb1
        go_wp2_with fail
        go_loopw [6, 27] (fun ns i wr => ∃ (k n : Nat), k ≤ L.length ∧ i = .int .i64 k ∧ ns = .slice (some ⟨w.heap.size, 0, none⟩) n gc ∧ RowKit.Hid (n = upTo L k) ∧ wr.ownsRow w.heap.size 68 2 (.slice (some ⟨w.heap.size, 0, none⟩) n gc) n (flat Nd.cells (joined L k)) ∧ Below w.heap.size w wr) (fun _ i _ => L.length - (intOf i).toNat)
        case atStart => exact ⟨0, 0, Nat.zero_le _, rfl, rfl, Lib.hid (by simp [upTo]), HO.out, HB1.out⟩
        case round =>
          obtain ⟨k, n, hk, rfl, rfl, hn, hown, hbw2⟩ := hrel
          have hsz := hbw2.size
          have HB := Lib.hid hbw2
          have HOW := Lib.hid hown
          clear hbw2 hown
          by_cases hlt2 : k < L.length
          · have c0 := keepc HB.out hbw (HCC.out k hlt2)
            have hsl := (HSS.out k hlt2).below (HB.out.mono hB)
            obtain ⟨p, cp, hf⟩ := (HSS.out k hlt2).form
            rw [hf] at c0 hsl
            have hu := upTo_succ L hlt2
            have hul := upTo_le L (k + 1)
            have hfit : n + L[k].2.length ≤ gc := by have := hn.out; have := HM.out; omega
            have HN := Lib.hid (show n + L[k].2.length = upTo L (k + 1) by have := hn.out; omega)
            have HJ := Lib.hid (show flat Nd.cells (joined L k) ++ flat Nd.cells L[k].2 = flat Nd.cells (joined L (k + 1)) by rw [joined_succ L hlt2, flat_append])
            have HS := Lib.hid hsl
            have HFL := Lib.hid (flat_length (enc := Nd.cells) (sz := 2) (fun _ => rfl) L[k].2)
            have HCE := Lib.hid (Sl.cells (sz := 2) (enc := Nd.cells) (fun _ => rfl) hsl)
            have HZE := Lib.hid (show p = none → L[k].2.length = 0 from fun h => by subst h; exact hsl.atNone)
            obtain ⟨ys, ey⟩ : ∃ ys, ys = L[k].2 := ⟨_, rfl⟩
            rw [← ey] at c0 hfit HN HJ HFL HCE HZE
            clear hsl HS ey hf hu hul
            cases p with
            | none =>
              have hy0 := HZE.out rfl
              obtain rfl : ys = [] := List.eq_nil_of_length_eq_zero hy0
              clear hy0
              go_wp2_with (at_builtin; refine Lib.wpList_append_run _ rfl _ _ _ _ rfl _ _ rfl rfl _ _ (run_append_room0 _ 23 _ 68 i0 Tryd.underlying23 hi _ n gc cp (by simpa using hfit)) ?_)
              have HO2 := Lib.hid (show wr.ownsRow w.heap.size 68 2 (.slice (some ⟨w.heap.size, 0, none⟩) n gc) n (flat Nd.cells (joined L (k + 1))) by rw [← HJ.out]; simpa [flat] using HOW.out)
              go_roundw
              case rel => exact ⟨k + 1, n, by omega, by go_num, rfl, HN, HO2.out, HB.out⟩
              case measure => simp [intOf]; omega
            | some pp =>
              go_wp2_with (at_builtin; refine wpList_append_fits_any _ rfl _ _ 23 rfl w.heap.size 68 i0 2 Tryd.underlying23 hi hz1 w.heap.size n gc _ rfl HOW.out (some pp) ys.length cp (flat Nd.cells ys) rfl HFL.out (fun h => by cases h) HCE.out (flat_oneNode ys) hfit ?_)
              intro w2 hown2 hgrow
              have HB2 := Lib.hid (HB.out.grown hgrow hsz (fun q hq => by cases hq; exact Nat.le_refl _))
              have HO2 := Lib.hid (show w2.ownsRow w.heap.size 68 2 (.slice (some ⟨w.heap.size, 0, none⟩) (n + ys.length) gc) (n + ys.length) (flat Nd.cells (joined L (k + 1))) by rw [← HJ.out]; exact hown2)
              clear hown2 hgrow
              go_wp2_with fail
              go_roundw
              case rel => exact ⟨k + 1, n + ys.length, by omega, by go_num, rfl, HN, HO2.out, HB2.out⟩
              case measure => simp [intOf]; omega
          · obtain rfl : k = L.length := by omega
            go_wp2_with fail
            go_ret
            obtain ⟨F, h1, h2⟩ := own_of_flat (enc := Nd.cells) (sz := 2) (fun _ => rfl) (n := n) (xs := joined L L.length) (by rw [joined_length]; exact hn.out) HOW.out
            exact ⟨_, F, rfl, h1, h2, HB.out⟩

theorem flat_oneEdge (xs : List Ed) : ∀ u ∈ flat Ed.cells xs, u.oneCell' = true := by
  intro u hu
  obtain ⟨x, _, hx⟩ := List.mem_flatMap.1 hu
  simp [Ed.cells] at hx
  rcases hx with rfl | rfl | rfl | rfl <;> rfl

end Go.Proofs.YtghhabailgfelaaDoor
namespace Go.Proofs.YtghhabailgfelaaDoor
open Go.RowKit

def turnE (x : Ed) : Ed := ⟨x.t, x.f, x.l, x.n⟩
def tgr (g : Gr) : Gr := if gv g then ⟨g.ns, g.es.map turnE⟩ else ⟨[], []⟩
theorem row_form {w : World} {base : Nat} {e : TypeId} {size : Nat} {v : Value} {n : Nat} {xs : List Value} (h : w.ownsRow base e size v n xs) : ∃ p c, v = .slice p n c := by
  rcases h.2 with ⟨rfl, rfl⟩ | ⟨g, cap, cur, rfl, _⟩
  · exact ⟨none, 0, rfl⟩
  · exact ⟨_, _, rfl⟩
theorem gv_ns {g : Gr} (h : gv g = true) : g.ns.length ≤ 8 := by
  unfold gv at h
  simp only [Bool.and_eq_true, decide_eq_true_eq] at h
  omega
theorem Gr.Own.empty (lo : Nat) (w : World) : (⟨[], []⟩ : Gr).Own lo w (.agg #[.slice none 0 0, .slice none 0 0]) [] [] :=
  ⟨_, _, rfl, ⟨none, 0, 0, rfl, rfl, Nat.le_refl _, Nat.zero_le _, .inl ⟨rfl, rfl⟩⟩, ⟨none, 0, 0, rfl, rfl, Nat.le_refl _, Nat.zero_le _, .inl ⟨rfl, rfl⟩⟩, by simp, by simp, by simp⟩

set_option maxRecDepth 100000 in
set_option maxHeartbeats 2000000 in
theorem turnGraph_any (g : Gr) (v : Value) (B : Nat) (w : World) (hg : g.At B w v) (hB : B ≤ w.heap.size) (hok : g.Ok) :
    Calls Tryd.prog 23 #[v] w fun e w' => ∃ v' F1 F2, e = .returned (.tuple #[v', .bool (gv g)]) ∧ (tgr g).Own w.heap.size w' v' F1 F2 ∧ Below w.heap.size w w' := by
  have HG := Lib.hid hg
  obtain ⟨a, b, rfl, ha, hb⟩ := hg
  obtain ⟨pa, ca, rfl⟩ := ha.form
  obtain ⟨p, cap, rfl⟩ := hb.form
  have hm := hb.max
  unfold maxLen at hm
  obtain ⟨i0, hi, hz0, hz1, hz2⟩ := info_parts infoEdge
  go_enter Tryd.func23, Tryd.ntmps23
  go_wp2_with fail
  have HV := Lib.hid (((Below.refl w.heap.size w).alloc (by simp) (.cells #[.slice pa g.ns.length ca, .slice p g.es.length cap] 26)).alloc (by simp) (.cells #[.slice none 0 0, .slice none 0 0] 26))
  have HA0 := Lib.hid (Below.refl (w.heap.size + 2) ((w.alloc (.cells #[.slice pa g.ns.length ca, .slice p g.es.length cap] 26)).alloc (.cells #[.slice none 0 0, .slice none 0 0] 26)))
  refine (graphValid_any g _ B _ (HG.out.below (HV.out.mono hB)) (by simp; omega) hok).mono ?_
  rintro e w1 ⟨rfl, hb1⟩
  have HA1 := Lib.hid (HA0.out.trans (hb1.mono (by simp)))
  clear hb1
  have HB1 := Lib.hid (HV.out.trans (HA1.out.mono (by omega)))
  obtain ⟨hs1, c0, c1, c2, c3⟩ := two_boxes HA1.out
  have f2 : w1.frozen? ⟨w.heap.size + 1, 0, none⟩ = false := (HA1.out.frozen (by simp)).trans (by simp [go_sem])
  have f3 : w1.frozen? ⟨w.heap.size + 1, 1, none⟩ = false := (HA1.out.frozen (by simp)).trans (by simp [go_sem])
  cases hgv : gv g with
  | false =>
    have HT := Lib.hid (show tgr g = ⟨[], []⟩ by unfold tgr; rw [hgv]; rfl)
    go_wp2_with fail
    refine bodyPost_ret (v := .tuple #[.agg #[.slice none 0 0, .slice none 0 0], .bool false]) (by simp [results, Tryd.results23, go_sem, c2, c3]) rfl ⟨_, [], [], by rw [hgv], by rw [HT.out]; exact Gr.Own.empty _ _, (HB1.out.setCell (by simp) _).setCell (by simp) _⟩
  | true =>
    have h14 := gv_len hgv
    have h8 := gv_ns hgv
    have HT := Lib.hid (show tgr g = ⟨g.ns, g.es.map turnE⟩ by unfold tgr; rw [hgv]; rfl)
    have t0 : w.heap.size < w1.heap.size := by omega
    go_wp2_with fail
    have HCB := Lib.hid (HB1.out.alloc (by omega) (.cells #[.slice pa g.ns.length ca] 23))
    refine (concatNode_any [(.slice pa g.ns.length ca, g.ns)] w1.heap.size 1 B _ (fun i hi => by
        obtain rfl : i = 0 := by simp at hi; omega
        simp [go_sem]) (fun i hi => by
        obtain rfl : i = 0 := by simp at hi; omega
        exact ha.below (HCB.out.mono hB)) (by simp; omega) (by simp) (by simp [upTo]; omega) (by simp)).mono ?_
    rintro e w2 ⟨v2, F1, rfl, ho2, hf2, hb2⟩
    have hj : joined [((.slice pa g.ns.length ca : Value), g.ns)] [((.slice pa g.ns.length ca : Value), g.ns)].length = g.ns := by simp [joined]
    rw [hj] at ho2
    have hs2 : w1.heap.size < w2.heap.size := by have := hb2.size; simp at this; omega
    have HO2 := Lib.hid ho2
    have HF2 := Lib.hid (show ∀ x ∈ F1, w1.heap.size ≤ x from fun x hx => by have := hf2 x hx; simp at this; omega)
    have HA2 := Lib.hid (HA1.out.trans ((below_past hb2).mono (by omega)))
    have HB2 := Lib.hid (HB1.out.trans ((below_past hb2).mono (by omega)))
    have hb2' := below_past hb2
    have f2' : w2.frozen? ⟨w.heap.size + 1, 0, none⟩ = false := (hb2'.frozen (p := ⟨w.heap.size + 1, 0, none⟩) (by show w.heap.size + 1 < w1.heap.size; omega)).trans f2
    have f3' : w2.frozen? ⟨w.heap.size + 1, 1, none⟩ = false := (hb2'.frozen (p := ⟨w.heap.size + 1, 1, none⟩) (by show w.heap.size + 1 < w1.heap.size; omega)).trans f3
    clear hb2 hb2' hf2 c0 c1 c2 c3 f2 f3 t0
    obtain ⟨pn, cn, rfl⟩ := ho2.sl.form
    clear ho2 hj
    obtain ⟨hs2', c0, c1, c2, c3⟩ := two_boxes HA2.out
    have t0 : w.heap.size < w2.heap.size := by omega
    go_wp2_with fail
    clear c0 c1 t0
    have HP0 := Lib.hid (Below.refl w2.heap.size w2)
    go_loopw [19] (fun i wr => ∃ (k : Nat) (q : Option Addr) (c : Nat), k ≤ g.es.length ∧ i = .int .i64 k ∧ wr.cell? ⟨w2.heap.size, 0, none⟩ = some (.slice pn g.ns.length cn) ∧ wr.cell? ⟨w2.heap.size, 1, none⟩ = some (.slice q k c) ∧
        wr.frozen? ⟨w2.heap.size, 1, none⟩ = false ∧ wr.ownsRow (w2.heap.size + 1) 38 4 (.slice q k c) k (flat Ed.cells ((g.es.take k).map turnE)) ∧ Below w2.heap.size w2 wr ∧ w2.heap.size + 1 ≤ wr.heap.size) (fun i _ => g.es.length - (intOf i).toNat)
    case atStart => exact ⟨0, none, 0, Nat.zero_le _, rfl, by simp [go_sem], by simp [go_sem], by simp [go_sem], World.ownsRow_nil _ _ _ _, (Below.refl _ _).alloc (Nat.le_refl _) _, by simp⟩
    case round =>
      obtain ⟨k, q, c, hk, rfl, d0, d1, z1, hown, hbw, hsz⟩ := hrel
      have HB := Lib.hid hbw
      have HOW := Lib.hid hown
      have HBB := Lib.hid (HB2.out.trans (hbw.mono (by omega)))
      have hkm : k ≤ 14 := by omega
      clear hbw hown
      by_cases hlt : k < g.es.length
      · obtain ⟨b, off, rfl, hbb, e0, e1, e2, e3⟩ := (hb.below (HBB.out.mono hB)).ed hlt
        have hT := Lib.hid (show (g.es.take (k + 1)).map turnE = (g.es.take k).map turnE ++ [turnE g.es[k]] by rw [List.take_succ_eq_append_getElem hlt, List.map_append]; rfl)
        obtain ⟨x, ex⟩ : ∃ x, x = g.es[k] := ⟨_, rfl⟩
        rw [← ex] at e0 e1 e2 e3 hT
        clear ex
        have tw : w2.heap.size < wr.heap.size := by omega
        go_wp2_with (at_builtin; refine wpList_append_own _ rfl _ _ 24 rfl (w2.heap.size + 1) 38 i0 _ 4 40 Tryd.underlying24 hi hz0 hz1 hz2 rfl (by decide) _ _ _ rfl ((HOW.out.alloc _).alloc _) ⟨wr.heap.size + 1, 0, none⟩ 1 1 [.int .i64 x.t, .int .i64 x.f, .string x.l, .int .i64 x.n] rfl rfl ?c1 ?c2 ?c3 ?c4 ?c5 ?_)
        case c1 =>
          intro j u hj
          match j, hj with
          | 0, hj => simp at hj; subst hj; simp [Addr.add, go_sem]
          | 1, hj => simp at hj; subst hj; simp [Addr.add, go_sem]
          | 2, hj => simp at hj; subst hj; simp [Addr.add, go_sem]
          | 3, hj => simp at hj; subst hj; simp [Addr.add, go_sem]
        case c2 => intro u hu; simp at hu; rcases hu with rfl | rfl | rfl | rfl <;> rfl
        case c3 => unfold maxLen; omega
        case c4 => omega
        case c5 => simp; omega
        intro v' w3 hown3 hgrow _
        have hK := (((Below.refl (w2.heap.size + 1) wr).alloc hsz (.cells #[.int .i64 x.f, .int .i64 x.t, .string x.l, .int .i64 x.n] 38)).alloc (by simp; omega) (.cells #[.int .i64 x.t, .int .i64 x.f, .string x.l, .int .i64 x.n] 38)).grown hgrow (by simp; omega) (fun r hr => (HOW.out.lt r hr).1)
        have d0' := keepc hK (by omega) d0
        have d1' := keepc hK (by omega) d1
        have z1' := (hK.frozen (p := ⟨w2.heap.size, 1, none⟩) (by show w2.heap.size < w2.heap.size + 1; omega)).trans z1
        have hs3 : w2.heap.size + 1 ≤ w3.heap.size := Nat.le_trans hsz hK.size
        have HB3 := Lib.hid (HB.out.trans (hK.mono (by omega)))
        obtain ⟨q', c', rfl⟩ := row_form hown3
        have HO3 := Lib.hid (show w3.ownsRow (w2.heap.size + 1) 38 4 (.slice q' (k + 1) c') (k + 1) (flat Ed.cells ((g.es.take (k + 1)).map turnE)) by rw [hT.out, flat_append]; simpa [flat, turnE, Ed.cells] using hown3)
        clear hown3 hgrow hK d0 d1 z1 e0 e1 e2 e3
        go_wp2_with fail
        go_roundw
        case rel => exact ⟨k + 1, q', c', by omega, by go_num, (set_near _ _ _ _ _ (by omega)).trans d0', set_same _ _ _ _ _ d1', by simpa [go_sem] using z1', ownsRow_setCell_below HO3.out (by show w2.heap.size < w2.heap.size + 1; omega) _, HB3.out.setCell (Nat.le_refl _) _, by simpa using hs3⟩
        case measure => simp [intOf]; omega
      · obtain rfl : k = g.es.length := by omega
        have r2 := keepc HB.out (by omega) c2
        have r3 := keepc HB.out (by omega) c3
        have r4 := (HB.out.frozen (p := ⟨w.heap.size + 1, 0, none⟩) (by show w.heap.size + 1 < w2.heap.size; omega)).trans f2'
        have r5 := (HB.out.frozen (p := ⟨w.heap.size + 1, 1, none⟩) (by show w.heap.size + 1 < w2.heap.size; omega)).trans f3'
        go_wp2_with fail
        obtain ⟨F2, h1, h2⟩ := own_of_flat (enc := Ed.cells) (sz := 4) (fun _ => rfl) (n := g.es.length) (xs := g.es.map turnE) (by simp) (by have := HOW.out; rwa [List.take_of_length_le (Nat.le_refl _)] at this)
        refine bodyPost_ret (v := .tuple #[.agg #[.slice pn g.ns.length cn, .slice q g.es.length c], .bool true]) (by simp [results, Tryd.results23, go_sem, r2, r3]) rfl ⟨_, F1, F2, by rw [hgv], ?_, (HBB.out.setCell (by simp) _).setCell (by simp) _⟩
        have hch : Chg [w.heap.size + 1] wr ((wr.setCell ⟨w.heap.size + 1, 0, none⟩ (.slice pn g.ns.length cn)).setCell ⟨w.heap.size + 1, 1, none⟩ (.slice q g.es.length c)) := ((Chg.refl _ wr).setCell (by simp) _).setCell (by simp) _
        rw [HT.out]
        have l1 := HO2.out.lt
        refine ⟨_, _, rfl, (HO2.out.chg (Chg.of_below HB.out []) (by simp)).chg hch ?_, h1.chg hch ?_, ?_, ?_, ?_⟩
        · intro x hx; have := HF2.out x hx; simp; omega
        · intro x hx; have := h2 x hx; simp; omega
        · intro x hx; have := HF2.out x hx; omega
        · intro x hx; have := h2 x hx; omega
        · intro x hx hx2; have := l1 x hx; have := h2 x hx2; omega
end Go.Proofs.YtghhabailgfelaaDoor
namespace Go.Proofs.YtghhabailgfelaaDoor
open Go.RowKit

theorem Sl.it {B : Nat} {w : World} {p : Option Addr} {len cap : Nat} {xs : List Int} (h : Sl 1 intCells B w (.slice p len cap) xs) {k : Nat} (hk : k < xs.length) :
    ∃ b off, p = some ⟨b, off, none⟩ ∧ b < B ∧ w.cell? ⟨b, off + k, none⟩ = some (.int .i64 xs[k]) := by
  obtain ⟨p', len', cap', h1, h2, h3, h4, h5⟩ := h
  cases h1
  obtain ⟨b, off, e1, e2, e3⟩ := h5 k hk
  have := e3 0 _ rfl
  rw [Nat.mul_one, Nat.add_zero] at this
  exact ⟨b, off, e1, e2, this⟩

end Go.Proofs.YtghhabailgfelaaDoor
namespace Go.Proofs.YtghhabailgfelaaDoor
open Go.RowKit

def Gr.marked (g : Gr) (m : Int) : Gr := ⟨(List.range g.ns.length).map (mkNode m), (List.range g.es.length).map (mkEdge (m + 2 * g.ns.length))⟩

end Go.Proofs.YtghhabailgfelaaDoor
namespace Go.Proofs.YtghhabailgfelaaDoor
open Go.RowKit

structure Wk where
  ns : List Int
  es : List Int
def Wk.Ok (x : Wk) : Prop := (∀ n ∈ x.ns, I64 n) ∧ (∀ n ∈ x.es, I64 n)
/-- The value of a struct Walk whose two slices lie below B. -/
def Wk.At (x : Wk) (B : Nat) (w : World) (v : Value) : Prop := ∃ a b, v = .agg #[a, b] ∧ Sl 1 intCells B w a x.ns ∧ Sl 1 intCells B w b x.es
theorem Wk.At.to {x : Wk} {B B' : Nat} {w w' : World} {v : Value} (h : x.At B w v) (hb : Below B w w') (hB : B ≤ B') : x.At B' w' v := by
  obtain ⟨a, b, h1, h2, h3⟩ := h
  exact ⟨a, b, h1, (h2.below hb).mono hB, (h3.below hb).mono hB⟩
theorem Wk.At.form {x : Wk} {B : Nat} {w : World} {v : Value} (h : x.At B w v) : ∃ p c q d, v = .agg #[.slice p x.ns.length c, .slice q x.es.length d] := by
  obtain ⟨a, b, rfl, h1, h2⟩ := h
  obtain ⟨p, c, rfl⟩ := h1.form
  obtain ⟨q, d, rfl⟩ := h2.form
  exact ⟨p, c, q, d, rfl⟩
/-- A walk in memory of the call's own, in the blocks F. -/
def Wk.Has (x : Wk) (v : Value) (F : List Nat) (u : World) : Prop :=
  ∃ a b F1 F2, v = .agg #[a, b] ∧ F = F1 ++ F2 ∧ OwnSl 1 intCells u a x.ns F1 ∧ OwnSl 1 intCells u b x.es F2 ∧ ∀ y ∈ F1, y ∉ F2
theorem Wk.Has.at {x : Wk} {v : Value} {F : List Nat} {w : World} (h : x.Has v F w) : x.At w.heap.size w v := by
  obtain ⟨a, b, F1, F2, rfl, rfl, h1, h2, _⟩ := h
  exact ⟨a, b, rfl, h1.sl, h2.sl⟩
theorem Wk.Has.chg {x : Wk} {v : Value} {F G : List Nat} {w w' : World} (h : x.Has v F w) (hc : Chg G w w') (hd : ∀ y ∈ F, y ∉ G) : x.Has v F w' := by
  obtain ⟨a, b, F1, F2, rfl, rfl, h1, h2, h3⟩ := h
  exact ⟨a, b, F1, F2, rfl, rfl, h1.chg hc (fun y hy => hd y (List.mem_append_left _ hy)), h2.chg hc (fun y hy => hd y (List.mem_append_right _ hy)), h3⟩
theorem Wk.Has.below {x : Wk} {v : Value} {F : List Nat} {w w' : World} (h : x.Has v F w) (hb : Below w.heap.size w w') : x.Has v F w' := h.chg (Chg.of_below hb []) (by simp)
theorem Wk.Has.lt {x : Wk} {v : Value} {F : List Nat} {w : World} (h : x.Has v F w) : ∀ y ∈ F, y < w.heap.size := by
  obtain ⟨a, b, F1, F2, rfl, rfl, h1, h2, h3⟩ := h
  intro y hy
  rcases List.mem_append.1 hy with hy | hy
  · exact h1.lt y hy
  · exact h2.lt y hy
theorem Wk.goes (x : Wk) : Goes x.Has := fun _ _ _ _ _ h hc hd => h.chg hc hd
def Wk.need (x : Wk) : Nat := x.ns.length + x.es.length

theorem infoIntW : (Tryd.prog.info? 3).map (fun i => (i.zero, i.size, i.bytes)) = some (some (.int .i64 0), 1, 8) := by kernel_rfl

def Wk.marked (x : Wk) (m : Int) : Wk := ⟨(List.range x.ns.length).map (mkInt m), (List.range x.es.length).map (mkInt (m + x.ns.length))⟩

end Go.Proofs.YtghhabailgfelaaDoor
namespace Go.Proofs.YtghhabailgfelaaDoor
open Go.RowKit

def OwnI (w : World) (v : Value) (xs : List Int) (F : List Nat) : Prop := OwnS 1 intCells 3 w v xs F
theorem OwnI.own {w : World} {v : Value} {xs : List Int} {F : List Nat} (h : OwnI w v xs F) : OwnSl 1 intCells w v xs F := OwnS.own (enc := intCells) (fun _ => rfl) h
theorem OwnI.chg {w w' : World} {v : Value} {xs : List Int} {F G : List Nat} (h : OwnI w v xs F) (hc : Chg G w w') (hd : ∀ x ∈ F, x ∉ G) : OwnI w' v xs F := OwnS.chg h hc hd
theorem OwnI.below {w w' : World} {v : Value} {xs : List Int} {F : List Nat} (h : OwnI w v xs F) (hc : Below w.heap.size w w') : OwnI w' v xs F := OwnS.below h hc
theorem OwnI.lt {w : World} {v : Value} {xs : List Int} {F : List Nat} (h : OwnI w v xs F) : ∀ x ∈ F, x < w.heap.size := OwnS.lt h
theorem OwnI.form {w : World} {v : Value} {xs : List Int} {F : List Nat} (h : OwnI w v xs F) : ∃ p cap, v = .slice p xs.length cap := OwnS.form h
theorem OwnI.empty (w : World) (p : Option Addr) : OwnI w (.slice p 0 0) [] [] := OwnS.empty p
theorem infoI : ∃ i, Tryd.prog.info? 3 = some i ∧ i.zero = some (.int .i64 0) ∧ i.size = 1 ∧ i.bytes = 8 := by
  obtain ⟨i, hi, hzz⟩ := Option.map_eq_some_iff.1 infoIntW
  simp only [Prod.mk.injEq] at hzz
  exact ⟨i, hi, hzz.1, hzz.2.1, hzz.2.2⟩
/-- What an append leaves. -/
def AppI (E : World) (xs : List Int) (F : List Nat) (v' : Value) (w' : World) : Prop := ∃ F', OwnI w' v' xs F' ∧ (∀ x ∈ F', x ∈ F ∨ E.heap.size ≤ x) ∧ Chg F E w'
/-- One more int, out of a new row of one. -/
theorem app_int {E : World} {s : Value} {ys : List Int} {F : List Nat} (h : OwnI E s ys F) (x : Int) (hl : ys.length < 3000000) (ty : TypeId) :
    ∃ v' w', (Builtin.append_ #[48, 48] ty #[s, .slice (some ⟨E.heap.size, 0, none⟩) 1 1]).run Tryd.prog (E.alloc (.cells #[.int .i64 x] 3)) = .ok v' w' ∧ AppI E (ys ++ [x]) F v' w' := by
  obtain ⟨i, hi, hz, hs, hb⟩ := infoI
  have hbe : Below E.heap.size E (E.alloc (.cells #[.int .i64 x] 3)) := (Below.refl _ _).alloc (Nat.le_refl _) _
  obtain ⟨v', w', hr, F', ho, hF, hc⟩ := OwnS.append (enc := intCells) (sz := 1) (fun _ => rfl) (fun x u hu => by simp [intCells] at hu; subst hu; rfl) 48 ty 3 i _ 8 Tryd.underlying48 hi hz hs hb (by decide) (h.below hbe) x E.heap.size 1
    (fun j u hu => by
      obtain rfl : j = 0 := by
        have hj := (List.getElem?_eq_some_iff.1 hu).1
        simp [intCells] at hj; omega
      simp [intCells] at hu; subst hu; simp [go_sem]) hl (by omega)
  exact ⟨v', w', hr, F', ho, fun x hx => by rcases hF x hx with h | h; (exact .inl h); (simp at h; exact .inr (by omega)), (Chg.of_below hbe F).trans hc⟩
/-- A whole row of ints. -/
theorem app_ints {E : World} {s u : Value} {xs ys : List Int} {F : List Nat} {B : Nat} (h : OwnI E s xs F) (hu : Sl 1 intCells B E u ys) (hl : xs.length + ys.length ≤ 3000000) (ty : TypeId) :
    ∃ v' w', (Builtin.append_ #[48, 48] ty #[s, u]).run Tryd.prog E = .ok v' w' ∧ AppI E (xs ++ ys) F v' w' := by
  obtain ⟨i, hi, hz, hs, hb⟩ := infoI
  exact OwnS.appends (enc := intCells) (sz := 1) (fun _ => rfl) (fun x u hu => by simp [intCells] at hu; subst hu; rfl) 48 ty 3 i _ 8 Tryd.underlying48 hi hz hs hb (by decide) h ys u B hu hl (by omega)

/-- xs, turned in its first a places and in its last a places. -/
def Rv (xs : List Int) (a : Nat) (ys : List Int) : Prop := ys.length = xs.length ∧ ∀ i (h : i < ys.length) (h1 : i < xs.length) (h2 : xs.length - 1 - i < xs.length), ys[i] = if i < a ∨ xs.length ≤ i + a then xs[xs.length - 1 - i] else xs[i]
theorem Rv.zero (xs : List Int) : Rv xs 0 xs := ⟨rfl, fun i _ h1 _ => by rw [if_neg (by omega)]⟩
theorem Rv.done {xs ys : List Int} {a : Nat} (h : Rv xs a ys) (ha : xs.length ≤ 2 * a + 1) : ys = xs.reverse := by
  refine List.ext_getElem (by simp [h.1]) fun i h1 h2 => ?_
  have hx : i < xs.length := by rw [← h.1]; exact h1
  rw [h.2 i h1 hx (by omega), List.getElem_reverse]
  split
  · rfl
  · have : xs.length - 1 - i = i := by omega
    simp only [this]
theorem Rv.step {xs ys : List Int} {a b : Nat} (h : Rv xs a ys) (hb : b = xs.length - 1 - a) (hab : a < b) (ha : a < ys.length) (hbl : b < ys.length) : Rv xs (a + 1) ((ys.set a ys[b]).set b ys[a]) := by
  have hl := h.1
  refine ⟨by simpa using hl, fun i hi h1 h2 => ?_⟩
  simp only [List.getElem_set]
  by_cases e1 : b = i
  · subst e1
    rw [if_pos rfl, h.2 a ha (by omega) (by omega), if_neg (by omega), if_pos (by omega)]
    simp only [show xs.length - 1 - b = a by omega]
  · rw [if_neg e1]
    by_cases e2 : a = i
    · subst e2
      rw [if_pos rfl, h.2 b hbl (by omega) (by omega), if_neg (by omega), if_pos (by omega)]
      simp only [← hb]
    · rw [if_neg e2, h.2 i (by simpa using hi) h1 h2]
      by_cases e3 : i < a ∨ xs.length ≤ i + a
      · rw [if_pos e3, if_pos (by omega)]
      · rw [if_neg e3, if_neg (by omega)]
theorem OwnSl.store1 {α : Type} {enc : α → List Value} {w : World} {b off len cap : Nat} {xs : List α} {F : List Nat} (h : OwnSl 1 enc w (.slice (some ⟨b, off, none⟩) len cap) xs F) {k : Nat} (hk : k < xs.length) (hsz : ∀ x, (enc x).length = 1)
    (y : α) (u : Value) (hy : enc y = (enc xs[k]).set 0 u) : OwnSl 1 enc (w.setCell ⟨b, off + k, none⟩ u) (.slice (some ⟨b, off, none⟩) len cap) (xs.set k y) F := by
  have := h.store (k := k) hk hsz 0 (by decide) y u hy
  rwa [Nat.mul_one, Nat.add_zero] at this

end Go.Proofs.YtghhabailgfelaaDoor
namespace Go.Proofs.YtghhabailgfelaaDoor
open Go.RowKit

section
variable {α β : Type} {sz1 : Nat} {enc1 : α → List Value} {T1 : TypeId} {xs : List α} {sz2 : Nat} {enc2 : β → List Value} {T2 : TypeId} {ys : List β} {b lo : Nat} {v1 v2 : Value} {w : World}
/-- One more behind field 0, and the field is stored anew. -/
theorem Two.app1h (hen : ∀ x, (enc1 x).length = sz1) (hone : ∀ (x : α), ∀ u ∈ enc1 x, u.oneCell' = true) (t ty : TypeId) (i : TypeInfo) (z : Value) (bytes : Nat)
    (ht : Tryd.prog.underlying t = some (.slice T1)) (hi : Tryd.prog.info? T1 = some i) (hz : i.zero = some z) (hsz : i.size = sz1) (hby : i.bytes = bytes) (hzs : z.cells.size = sz1)
    {w0 : World} {G0 : List Nat} (h : Two sz1 enc1 T1 xs sz2 enc2 T2 ys b lo v1 v2 w0) (hc0 : Chg G0 w0 w) (hG0 : ∀ x ∈ G0, x < lo) (y : α) (cs : Array Value) (hcs : cs = (enc1 y).toArray) (hl : xs.length < 1000000) (hb1 : (xs.length + 1) * bytes ≤ 140737488355328) :
    ∃ v' w', (Builtin.append_ #[t, t] ty #[v1, .slice (some ⟨w.heap.size, 0, none⟩) 1 1]).run Tryd.prog (w.alloc (.cells cs T1)) = .ok v' w' ∧
      (Two sz1 enc1 T1 (xs ++ [y]) sz2 enc2 T2 ys b lo v' v2 (w'.setCell ⟨b, 0, none⟩ v') ∧ (w'.cell? ⟨b, 0, none⟩ = some v1 ∧ w'.cell? ⟨b, 1, none⟩ = some v2 ∧ w'.frozen? ⟨b, 0, none⟩ = false ∧ w'.frozen? ⟨b, 1, none⟩ = false) ∧ ∃ G, Chg G w (w'.setCell ⟨b, 0, none⟩ v') ∧ ∀ x ∈ G, lo ≤ x ∧ x < w0.heap.size) := by
  subst hcs
  have hbe : Chg [] w (w.alloc (.cells (enc1 y).toArray T1)) := (Chg.refl _ _).alloc _
  have hce := (hc0.trans (hbe.mono (by simp)) : Chg G0 w0 _)
  obtain ⟨⟨k1, h2⟩, ⟨k3, k4⟩, ⟨k5, k6⟩, F1, F2, k7, k8, h9, h10, h11⟩ := h
  have hlt := k7.lt
  have hbG : b ∉ G0 := fun hm => by have := hG0 b hm; omega
  have h1 := Nat.lt_of_lt_of_le k1 hce.size
  have h3 := hce.cellOf hbG k3
  have h4 := hce.cellOf hbG k4
  have h5 := hce.frozenOf hbG k1 k5
  have h6 := hce.frozenOf hbG k1 k6
  have h7 := k7.chg hce (fun x hx hm => by have := hG0 x hm; have := (h9 x hx).1; omega)
  have h8 := k8.chg hce (fun x hx hm => by have := hG0 x hm; have := (h10 x hx).1; omega)
  obtain ⟨v', w', hr, F', o1, o2, hc⟩ := OwnS.append hen hone t ty T1 i z bytes ht hi hz hsz hby hzs h7 y w.heap.size 1 (fun j u hu => by
    rw [World.cell?_alloc_at _ _ _ _ rfl]; simpa using hu) (by omega) hb1
  have hbF : b ∉ F1 := fun hm => (h9 b hm).2 rfl
  have c0 := hc.cellOf hbF h3
  have c1 := hc.cellOf hbF h4
  have f0 := hc.frozenOf hbF h1 h5
  have f1 := hc.frozenOf hbF h1 h6
  have hbw : b < w'.heap.size := Nat.lt_of_lt_of_le h1 hc.size
  have hnew : ∀ x ∈ F', lo ≤ x ∧ x ≠ b := fun x hx => by
    rcases o2 x hx with h | h
    · exact h9 x h
    · omega
  have hs : Chg [b] w' (w'.setCell ⟨b, 0, none⟩ v') := (Chg.refl _ _).setCell (p := ⟨b, 0, none⟩) (by simp) v'
  have hmine := o1.chg hs (fun x hx hm => by simp at hm; exact (hnew x hx).2 hm)
  have hol := h8.lt
  have hother := (h8.chg hc (fun x hx hm => h11 x hm hx)).chg hs (fun x hx hm => by simp at hm; exact (h10 x hx).2 hm)
  have hdis : ∀ x ∈ F', x ∉ F2 := fun x hx hm => by
    rcases o2 x hx with h | h
    · exact (fun x hx hm => h11 x hm hx) x hm h
    · have := hol x hm; omega
  refine ⟨v', w', hr, ⟨⟨by simpa using hbw, h2⟩, ⟨set_same _ _ _ _ _ c0, (set_near _ _ _ _ _ (by omega)).trans c1⟩, ⟨by simpa [go_sem] using f0, by simpa [go_sem] using f1⟩, F', F2, hmine, hother, hnew, h10, fun x hx => hdis x hx⟩, ⟨c0, c1, f0, f1⟩, b :: F1, ?_, ?_⟩
  · refine ((hbe.mono (by simp)).trans (hc.mono (fun x hx => List.mem_cons_of_mem _ hx))).trans (hs.mono (by simp))
  · intro x hx
    rcases List.mem_cons.1 hx with rfl | hx
    · exact ⟨h2, k1⟩
    · exact ⟨(h9 x hx).1, hlt x hx⟩
/-- One more behind field 1, and the field is stored anew. -/
theorem Two.app2h (hen : ∀ x, (enc2 x).length = sz2) (hone : ∀ (x : β), ∀ u ∈ enc2 x, u.oneCell' = true) (t ty : TypeId) (i : TypeInfo) (z : Value) (bytes : Nat)
    (ht : Tryd.prog.underlying t = some (.slice T2)) (hi : Tryd.prog.info? T2 = some i) (hz : i.zero = some z) (hsz : i.size = sz2) (hby : i.bytes = bytes) (hzs : z.cells.size = sz2)
    {w0 : World} {G0 : List Nat} (h : Two sz1 enc1 T1 xs sz2 enc2 T2 ys b lo v1 v2 w0) (hc0 : Chg G0 w0 w) (hG0 : ∀ x ∈ G0, x < lo) (y : β) (cs : Array Value) (hcs : cs = (enc2 y).toArray) (hl : ys.length < 1000000) (hb1 : (ys.length + 1) * bytes ≤ 140737488355328) :
    ∃ v' w', (Builtin.append_ #[t, t] ty #[v2, .slice (some ⟨w.heap.size, 0, none⟩) 1 1]).run Tryd.prog (w.alloc (.cells cs T2)) = .ok v' w' ∧
      (Two sz1 enc1 T1 xs sz2 enc2 T2 (ys ++ [y]) b lo v1 v' (w'.setCell ⟨b, 1, none⟩ v') ∧ (w'.cell? ⟨b, 0, none⟩ = some v1 ∧ w'.cell? ⟨b, 1, none⟩ = some v2 ∧ w'.frozen? ⟨b, 0, none⟩ = false ∧ w'.frozen? ⟨b, 1, none⟩ = false) ∧ ∃ G, Chg G w (w'.setCell ⟨b, 1, none⟩ v') ∧ ∀ x ∈ G, lo ≤ x ∧ x < w0.heap.size) := by
  subst hcs
  have hbe : Chg [] w (w.alloc (.cells (enc2 y).toArray T2)) := (Chg.refl _ _).alloc _
  have hce := (hc0.trans (hbe.mono (by simp)) : Chg G0 w0 _)
  obtain ⟨⟨k1, h2⟩, ⟨k3, k4⟩, ⟨k5, k6⟩, F1, F2, k7, k8, h9, h10, h11⟩ := h
  have hlt := k8.lt
  have hbG : b ∉ G0 := fun hm => by have := hG0 b hm; omega
  have h1 := Nat.lt_of_lt_of_le k1 hce.size
  have h3 := hce.cellOf hbG k3
  have h4 := hce.cellOf hbG k4
  have h5 := hce.frozenOf hbG k1 k5
  have h6 := hce.frozenOf hbG k1 k6
  have h7 := k7.chg hce (fun x hx hm => by have := hG0 x hm; have := (h9 x hx).1; omega)
  have h8 := k8.chg hce (fun x hx hm => by have := hG0 x hm; have := (h10 x hx).1; omega)
  obtain ⟨v', w', hr, F', o1, o2, hc⟩ := OwnS.append hen hone t ty T2 i z bytes ht hi hz hsz hby hzs h8 y w.heap.size 1 (fun j u hu => by
    rw [World.cell?_alloc_at _ _ _ _ rfl]; simpa using hu) (by omega) hb1
  have hbF : b ∉ F2 := fun hm => (h10 b hm).2 rfl
  have c0 := hc.cellOf hbF h3
  have c1 := hc.cellOf hbF h4
  have f0 := hc.frozenOf hbF h1 h5
  have f1 := hc.frozenOf hbF h1 h6
  have hbw : b < w'.heap.size := Nat.lt_of_lt_of_le h1 hc.size
  have hnew : ∀ x ∈ F', lo ≤ x ∧ x ≠ b := fun x hx => by
    rcases o2 x hx with h | h
    · exact h10 x h
    · omega
  have hs : Chg [b] w' (w'.setCell ⟨b, 1, none⟩ v') := (Chg.refl _ _).setCell (p := ⟨b, 1, none⟩) (by simp) v'
  have hmine := o1.chg hs (fun x hx hm => by simp at hm; exact (hnew x hx).2 hm)
  have hol := h7.lt
  have hother := (h7.chg hc (fun x hx hm => h11 x hx hm)).chg hs (fun x hx hm => by simp at hm; exact (h9 x hx).2 hm)
  have hdis : ∀ x ∈ F', x ∉ F1 := fun x hx hm => by
    rcases o2 x hx with h | h
    · exact (fun x hx hm => h11 x hx hm) x hm h
    · have := hol x hm; omega
  refine ⟨v', w', hr, ⟨⟨by simpa using hbw, h2⟩, ⟨(set_near _ _ _ _ _ (by omega)).trans c0, set_same _ _ _ _ _ c1⟩, ⟨by simpa [go_sem] using f0, by simpa [go_sem] using f1⟩, F1, F', hother, hmine, h9, hnew, fun x hx hm => hdis x hm hx⟩, ⟨c0, c1, f0, f1⟩, b :: F2, ?_, ?_⟩
  · refine ((hbe.mono (by simp)).trans (hc.mono (fun x hx => List.mem_cons_of_mem _ hx))).trans (hs.mono (by simp))
  · intro x hx
    rcases List.mem_cons.1 hx with rfl | hx
    · exact ⟨h2, k1⟩
    · exact ⟨(h10 x hx).1, hlt x hx⟩
end
/-- A walk in the making, in the variable in block b. -/
abbrev WTwo (ns es : List Int) (b lo : Nat) (v1 v2 : Value) (w : World) : Prop := Two 1 intCells 3 ns 1 intCells 3 es b lo v1 v2 w
theorem appA {b lo : Nat} {v1 v2 : Value} {w w0 : World} {ns es : List Int} {G0 : List Nat} (h : WTwo ns es b lo v1 v2 w0) (hc0 : Chg G0 w0 w) (hG0 : ∀ x ∈ G0, x < lo) (x : Int) (hl : ns.length < 1000000) :
    ∃ v' w', (Builtin.append_ #[48, 48] 48 #[v1, .slice (some ⟨w.heap.size, 0, none⟩) 1 1]).run Tryd.prog (w.alloc (.cells #[.int .i64 x] 3)) = .ok v' w' ∧
      (WTwo (ns ++ [x]) es b lo v' v2 (w'.setCell ⟨b, 0, none⟩ v') ∧ (w'.cell? ⟨b, 0, none⟩ = some v1 ∧ w'.cell? ⟨b, 1, none⟩ = some v2 ∧ w'.frozen? ⟨b, 0, none⟩ = false ∧ w'.frozen? ⟨b, 1, none⟩ = false) ∧ (∃ p c, v' = .slice p (ns.length + 1) c) ∧ ∃ G, Chg G w (w'.setCell ⟨b, 0, none⟩ v') ∧ ∀ x ∈ G, lo ≤ x ∧ x < w0.heap.size) := by
  obtain ⟨i, hi, hz, hs, hb⟩ := infoI
  obtain ⟨v', w', h1, h2, h3, h4⟩ := Two.app1h (enc1 := intCells) (sz1 := 1) (fun _ => rfl) (fun x u hu => by simp [intCells] at hu; subst hu; rfl) 48 48 i _ 8 Tryd.underlying48 hi hz hs hb (by decide) h hc0 hG0 x _ rfl hl (by omega)
  refine ⟨v', w', h1, h2, h3, ?_, h4⟩
  obtain ⟨_, _, _, F1, F2, o1, o2, _⟩ := h2
  simpa using OwnS.form o1
theorem appB {b lo : Nat} {v1 v2 : Value} {w w0 : World} {ns es : List Int} {G0 : List Nat} (h : WTwo ns es b lo v1 v2 w0) (hc0 : Chg G0 w0 w) (hG0 : ∀ x ∈ G0, x < lo) (x : Int) (hl : es.length < 1000000) :
    ∃ v' w', (Builtin.append_ #[48, 48] 48 #[v2, .slice (some ⟨w.heap.size, 0, none⟩) 1 1]).run Tryd.prog (w.alloc (.cells #[.int .i64 x] 3)) = .ok v' w' ∧
      (WTwo ns (es ++ [x]) b lo v1 v' (w'.setCell ⟨b, 1, none⟩ v') ∧ (w'.cell? ⟨b, 0, none⟩ = some v1 ∧ w'.cell? ⟨b, 1, none⟩ = some v2 ∧ w'.frozen? ⟨b, 0, none⟩ = false ∧ w'.frozen? ⟨b, 1, none⟩ = false) ∧ (∃ p c, v' = .slice p (es.length + 1) c) ∧ ∃ G, Chg G w (w'.setCell ⟨b, 1, none⟩ v') ∧ ∀ x ∈ G, lo ≤ x ∧ x < w0.heap.size) := by
  obtain ⟨i, hi, hz, hs, hb⟩ := infoI
  obtain ⟨v', w', h1, h2, h3, h4⟩ := Two.app2h (enc2 := intCells) (sz2 := 1) (fun _ => rfl) (fun x u hu => by simp [intCells] at hu; subst hu; rfl) 48 48 i _ 8 Tryd.underlying48 hi hz hs hb (by decide) h hc0 hG0 x _ rfl hl (by omega)
  refine ⟨v', w', h1, h2, h3, ?_, h4⟩
  obtain ⟨_, _, _, F1, F2, o1, o2, _⟩ := h2
  simpa using OwnS.form o2
theorem WTwo.has {ns es : List Int} {w : World} {b lo : Nat} {v1 v2 : Value} (h : WTwo ns es b lo v1 v2 w) : ∃ F, (⟨ns, es⟩ : Wk).Has (.agg #[v1, v2]) F w ∧ ∀ x ∈ F, lo ≤ x ∧ x ≠ b := by
  obtain ⟨_, _, _, F1, F2, h7, h8, h9, h10, h11⟩ := h
  refine ⟨F1 ++ F2, ⟨_, _, F1, F2, rfl, rfl, OwnS.own (enc := intCells) (fun _ => rfl) h7, OwnS.own (enc := intCells) (fun _ => rfl) h8, h11⟩, fun x hx => ?_⟩
  rcases List.mem_append.1 hx with h | h
  · exact h9 x h
  · exact h10 x h
end Go.Proofs.YtghhabailgfelaaDoor
namespace Go.Proofs.YtghhabailgfelaaDoor
open Go.RowKit

def hqCells (x : Int × Int) : List Value := [.int .i64 x.1, .int .i64 x.2]
/-- The element without anything, of edges, in any direction. -/
def elem3 : Array Value := #[.bool false, .string ⟨#[]⟩, .int .i64 0, .string ⟨#[]⟩, .slice none 0 0, .int .i64 0, .string ⟨#[]⟩, .slice none 0 0, .int .i64 3]
theorem infoHq : (Tryd.prog.info? 40).map (fun i => (i.zero, i.size, i.bytes)) = some (some (.agg #[.int .i64 0, .int .i64 0]), 2, 16) := by kernel_rfl
theorem app_hop {E : World} {s : Value} {ys : List (Int × Int)} {F : List Nat} (h : OwnS 2 hqCells 40 E s ys F) (x : Int × Int) (hl : ys.length < 3000000) :
    ∃ v' w', (Builtin.append_ #[34, 34] 34 #[s, .slice (some ⟨E.heap.size, 0, none⟩) 1 1]).run Tryd.prog (E.alloc (.cells #[.int .i64 x.1, .int .i64 x.2] 40)) = .ok v' w' ∧
      ∃ F', OwnS 2 hqCells 40 w' v' (ys ++ [x]) F' ∧ (∀ x ∈ F', x ∈ F ∨ E.heap.size ≤ x) ∧ Chg F E w' := by
  obtain ⟨i, hi, hzz⟩ := Option.map_eq_some_iff.1 infoHq
  simp only [Prod.mk.injEq] at hzz
  have hbe : Below E.heap.size E (E.alloc (.cells #[.int .i64 x.1, .int .i64 x.2] 40)) := (Below.refl _ _).alloc (Nat.le_refl _) _
  obtain ⟨v', w', hr, F', ho, hF, hc⟩ := OwnS.append (enc := hqCells) (sz := 2) (fun _ => rfl) (fun x u hu => by simp [hqCells] at hu; rcases hu with rfl | rfl <;> rfl) 34 34 40 i _ 16 Tryd.underlying34 hi hzz.1 hzz.2.1 hzz.2.2 (by decide) (h.below hbe) x E.heap.size 1
    (fun j u hu => by
      rw [World.cell?_alloc_at _ _ _ _ rfl]
      match j, hu with
      | 0, hu => simpa [hqCells] using hu
      | 1, hu => simpa [hqCells] using hu
      | j + 2, hu => simp [hqCells] at hu) hl (by omega)
  exact ⟨v', w', hr, F', ho, fun x hx => by rcases hF x hx with h | h; (exact .inl h); (simp at h; exact .inr (by omega)), (Chg.of_below hbe F).trans hc⟩

set_option maxRecDepth 100000 in
set_option maxHeartbeats 1000000 in
theorem l3Fits3_any (s : ByteArray) (n : Int) (w : World) :
    Calls Tryd.prog 38 #[.agg elem3, .string s, .int .i64 n] w fun e w' => e = .returned (.bool true) ∧ Below w.heap.size w w' := by
  unfold elem3
  go_enter Tryd.func38, Tryd.ntmps38
  go_wp2_with fail
  go_ret
  exact ⟨rfl, by ((repeat (first | with_reducible assumption | with_reducible exact Below.refl _ _ | refine Below.setCell ?_ (by (first | omega | (simp; omega) | (simp; done) | fail "sml")) _ | refine Below.drew ?_ | refine Below.alloc ?_ (by (first | omega | (simp; omega) | (simp; done) | fail "sml")) _)); first | done | fail "chs")⟩

set_option maxRecDepth 100000 in
set_option maxHeartbeats 8000000 in
theorem l3Hops3_any (g : Gr) (v : Value) (node : Int) (B : Nat) (w : World) (hg : g.At B w v) (hB : B ≤ w.heap.size) (hn : g.es.length ≤ 1000000) :
    Calls Tryd.prog 32 #[v, .int .i64 node, .agg elem3] w fun e w' => ∃ v' xs F, e = .returned v' ∧ OwnS 2 hqCells 40 w' v' xs F ∧ xs.length ≤ g.es.length ∧ (∀ x ∈ F, w.heap.size ≤ x) ∧ Below w.heap.size w w' := by
  have HF := Lib.hid (fun (s : ByteArray) (n : Int) (E : World) => l3Fits3_any s n E)
  unfold elem3 at HF ⊢
  obtain ⟨a, b, rfl, h1, h2⟩ := hg
  obtain ⟨pa, ca, rfl⟩ := h1.form
  obtain ⟨pb, cb, rfl⟩ := h2.form
  have hm := h2.max
  unfold maxLen at hm
  have HE := Lib.hid h2
  clear h1 h2
  obtain ⟨W, eW⟩ : ∃ W, W = (w.alloc (.cells #[.slice pa g.ns.length ca, .slice pb g.es.length cb] 26)).alloc (.cells #[.bool false, .string ⟨#[]⟩, .int .i64 0, .string ⟨#[]⟩, .slice none 0 0, .int .i64 0, .string ⟨#[]⟩, .slice none 0 0, .int .i64 3] 31) := ⟨_, rfl⟩
  have HV := Lib.hid (show Below w.heap.size w W by rw [eW]; exact ((Below.refl w.heap.size w).alloc (by simp) _).alloc (by simp) _)
  have hs0 : W.heap.size = w.heap.size + 2 := by rw [eW]; simp
  have HK := Lib.hid (show ∀ wk, Below (w.heap.size + 2) W wk → w.heap.size + 2 ≤ wk.heap.size ∧ wk.cell? ⟨w.heap.size, 0, none⟩ = some (.slice pa g.ns.length ca) ∧ wk.cell? ⟨w.heap.size, 1, none⟩ = some (.slice pb g.es.length cb) ∧ wk.cell? ⟨w.heap.size + 1, 0, none⟩ = some (.bool false) ∧ wk.cell? ⟨w.heap.size + 1, 1, none⟩ = some (.string ⟨#[]⟩) ∧ wk.cell? ⟨w.heap.size + 1, 2, none⟩ = some (.int .i64 0) ∧ wk.cell? ⟨w.heap.size + 1, 3, none⟩ = some (.string ⟨#[]⟩) ∧ wk.cell? ⟨w.heap.size + 1, 4, none⟩ = some (.slice none 0 0) ∧ wk.cell? ⟨w.heap.size + 1, 5, none⟩ = some (.int .i64 0) ∧ wk.cell? ⟨w.heap.size + 1, 6, none⟩ = some (.string ⟨#[]⟩) ∧ wk.cell? ⟨w.heap.size + 1, 7, none⟩ = some (.slice none 0 0) ∧ wk.cell? ⟨w.heap.size + 1, 8, none⟩ = some (.int .i64 3) from
    fun wk hk => by rw [eW] at hk; exact ⟨by have := hk.size; simp at this; omega, keepc hk (by omega) (by simp [go_sem]), keepc hk (by omega) (by simp [go_sem]), keepc hk (by omega) (by simp [go_sem]), keepc hk (by omega) (by simp [go_sem]), keepc hk (by omega) (by simp [go_sem]), keepc hk (by omega) (by simp [go_sem]), keepc hk (by omega) (by simp [go_sem]), keepc hk (by omega) (by simp [go_sem]), keepc hk (by omega) (by simp [go_sem]), keepc hk (by omega) (by simp [go_sem]), keepc hk (by omega) (by simp [go_sem])⟩)
  have EW := Lib.hid eW
  clear eW
  go_enter Tryd.func32, Tryd.ntmps32
  go_wp2_with fail
  try rw [← EW.out]
  go_loopw [7, 8] (fun fnd i wr => ∃ (k : Nat) (xs : List (Int × Int)) (F : List Nat), k ≤ g.es.length ∧ i = .int .i64 k ∧ OwnS 2 hqCells 40 wr fnd xs F ∧ xs.length ≤ k ∧ (∀ x ∈ F, w.heap.size + 2 ≤ x) ∧ Below (w.heap.size + 2) W wr) (fun _ i _ => g.es.length - (intOf i).toNat)
  case atStart => exact ⟨0, [], [], Nat.zero_le _, rfl, OwnS.empty _, Nat.le_refl _, by simp, (Below.refl _ _).alloc (by omega) _⟩
  case round =>
    obtain ⟨k, xs, F, hk, rfl, ho, hx, hF, hb⟩ := hrel
    have HB := Lib.hid hb
    have HO := Lib.hid ho
    have HFL := Lib.hid hF
    clear hb ho hF
    obtain ⟨hz, a0, a1, c0, c1, c2, c3, c4, c5, c6, c7, c8⟩ := HK.out _ HB.out
    by_cases hlt : k < g.es.length
    · obtain ⟨b, off, rfl, hbb, x0, x1, x2, x3⟩ := (HE.out.below ((HV.out.trans (HB.out.mono (by omega))).mono hB)).ed hlt
      obtain ⟨x, ex⟩ : ∃ x, x = g.es[k] := ⟨_, rfl⟩
      rw [← ex] at x0 x1 x2 x3
      clear ex
      have hq1 : w.heap.size < wr.heap.size := by omega
      have hq2 : w.heap.size + 1 < wr.heap.size := by omega
      go_wp2_with fail
      refine (HF.out x.l x.n _).mono ?_
      rintro en w4 ⟨rfl, hb4⟩
      have s4 : wr.heap.size < w4.heap.size := by have := hb4.size; simp at this; omega
      have y0 := new_cell hb4 (j := 0) rfl
      have y1 := new_cell hb4 (j := 1) rfl
      have HO4 := Lib.hid (HO.out.below (below_past hb4))
      have HB4 := Lib.hid (HB.out.trans ((below_past hb4).mono hz))
      clear hb4 x0 x1 x2 x3 hq1 hq2 hz a0 a1 c0 c1 c2 c3 c4 c5 c6 c7 c8
      obtain ⟨hz, a0, a1, c0, c1, c2, c3, c4, c5, c6, c7, c8⟩ := HK.out _ HB4.out
      have hq1 : w.heap.size < w4.heap.size := by omega
      have hq2 : w.heap.size + 1 < w4.heap.size := by omega
      have HA1 := Lib.hid (app_hop HO4.out (k, x.t) (by omega))
      have HA2 := Lib.hid (app_hop HO4.out (k, x.f) (by omega))
      by_cases h1 : x.f = node
      · have q1 : (x.f == node) = true := beq_iff_eq.2 h1
        clear h1
        go_wp2_with (at_builtin; refine wpApp rfl (.tmp 39) (.tmp 44) 34 rfl _ _ rfl rfl _ HA1.out ?_; rintro v2 w2 hr; have HR := Lib.hid hr; clear hr)
        go_roundw
        case rel =>
          obtain ⟨F', h1, h2, h3⟩ := HR.out
          exact ⟨k + 1, _, F', by omega, by go_num, h1, by simp; omega, fun y hy => by rcases h2 y hy with h | h; (exact HFL.out y h); omega, HB4.out.trans (h3.below hz HFL.out)⟩
        case measure => simp [intOf]; omega
      · have q1 : (x.f == node) = false := beq_eq_false_iff_ne.2 h1
        clear h1
        by_cases h2 : x.t = node
        · have q2 : (x.t == node) = true := beq_iff_eq.2 h2
          clear h2
          go_wp2_with (at_builtin; refine wpApp rfl (.tmp 55) (.tmp 60) 34 rfl _ _ rfl rfl _ HA2.out ?_; rintro v2 w2 hr; have HR := Lib.hid hr; clear hr)
          go_roundw
          case rel =>
            obtain ⟨F', h1, h2, h3⟩ := HR.out
            exact ⟨k + 1, _, F', by omega, by go_num, h1, by simp; omega, fun y hy => by rcases h2 y hy with h | h; (exact HFL.out y h); omega, HB4.out.trans (h3.below hz HFL.out)⟩
          case measure => simp [intOf]; omega
        · have q2 : (x.t == node) = false := beq_eq_false_iff_ne.2 h2
          clear h2
          go_wp2_with fail
          go_roundw
          case rel => exact ⟨k + 1, xs, F, by omega, by go_num, HO4.out, by omega, HFL.out, HB4.out⟩
          case measure => simp [intOf]; omega
    · go_wp2_with fail
      go_ret
      exact ⟨_, xs, F, rfl, HO.out, by omega, fun x hx => by have := HFL.out x hx; omega, HV.out.trans (HB.out.mono (by omega))⟩
end Go.Proofs.YtghhabailgfelaaDoor
namespace Go.Proofs.YtghhabailgfelaaDoor
open Go.RowKit

/-- The first append: onto an empty row. -/
theorem onto_none {E : World} {s u : Value} {ys : List Int} {B : Nat} (h : OwnI E s [] []) (hu : Sl 1 intCells B E u ys) (hl : ys.length ≤ 3000000) (ty : TypeId) :
    ∃ v' w', (Builtin.append_ #[48, 48] ty #[s, u]).run Tryd.prog E = .ok v' w' ∧ ∃ F, OwnI w' v' ys F ∧ (∀ y ∈ F, E.heap.size ≤ y) ∧ Below E.heap.size E w' := by
  obtain ⟨v', w', hr, F, h1, h2, h3⟩ := app_ints h hu (by simpa using hl) ty
  exact ⟨v', w', hr, F, by simpa using h1, fun y hy => by rcases h2 y hy with h | h; (simp at h); exact h, h3.below (Nat.le_refl _) (by simp)⟩
/-- A walk's two rows, both in whole blocks of the call's own. -/
def WRows (x : Wk) (v : Value) (lo : Nat) (w : World) : Prop := ∃ a b F1 F2, v = .agg #[a, b] ∧ OwnI w a x.ns F1 ∧ OwnI w b x.es F2 ∧ (∀ y ∈ F1, lo ≤ y) ∧ (∀ y ∈ F2, lo ≤ y) ∧ ∀ y ∈ F1, y ∉ F2

end Go.Proofs.YtghhabailgfelaaDoor
namespace Go.Proofs.YtghhabailgfelaaDoor
open Go.RowKit

set_option maxHeartbeats 400000 in
theorem hasEdge_any (g : Gr) (v : Value) (n : Int) (B : Nat) (w : World) (hg : g.At B w v) :
    Calls Tryd.prog 33 #[v, .int .i64 n] w fun e w' => e = .returned (.bool (hn g.es.length n)) ∧ Below w.heap.size w w' := by
  obtain ⟨a, b, rfl, h1, h2⟩ := hg
  obtain ⟨p, cap, rfl⟩ := h1.form
  obtain ⟨p', cap', rfl⟩ := h2.form
  have hm := h2.max
  unfold maxLen at hm
  go_enter Tryd.func33, Tryd.ntmps33
  go_wp2
  all_goals
    go_ret
    refine ⟨ret_bool ?_, (Below.refl _ _).alloc (Nat.le_refl _) _⟩
    unfold hn
    rw [Bool.eq_iff_iff]
    simp [*]
    try omega
end Go.Proofs.YtghhabailgfelaaDoor
namespace Go.Proofs.YtghhabailgfelaaDoor
open Go.RowKit

structure Hp where
  e : Int
  t : Int
def Hp.cells (x : Hp) : List Value := [.int .i64 x.e, .int .i64 x.t]

theorem Sl.atHop {B : Nat} {w : World} {p : Option Addr} {len cap : Nat} {xs : List Hp} (h : Sl 2 Hp.cells B w (.slice p len cap) xs) {k : Nat} (hk : k < xs.length) :
    ∃ b off, p = some ⟨b, off, none⟩ ∧ b < B ∧ w.cell? ⟨b, off + k * 2, none⟩ = some (.int .i64 xs[k].e) ∧ w.cell? ⟨b, off + k * 2 + 1, none⟩ = some (.int .i64 xs[k].t) := by
  obtain ⟨p', len', cap', h1, h2, h3, h4, h5⟩ := h
  cases h1
  obtain ⟨b, off, e1, e2, e3⟩ := h5 k hk
  exact ⟨b, off, e1, e2, e3 0 _ rfl, e3 1 _ rfl⟩
def mkHop (m : Int) (k : Nat) : Hp := ⟨m + 2 * (k : Int), m + 2 * (k : Int) + 1⟩
end Go.Proofs.YtghhabailgfelaaDoor
namespace Go.Proofs.YtghhabailgfelaaDoor
open Go.RowKit

/-- Where an edge leads from a node in a direction, and whether it does. -/
def follB (node d : Int) (x : Ed) : Bool := (d != 2 && x.f == node) || (d != 1 && x.t == node)
def follT (node d : Int) (x : Ed) : Int := if d != 2 && x.f == node then x.t else if d != 1 && x.t == node then x.f else 0
set_option maxHeartbeats 1000000 in
theorem followEdge_any (x : Ed) (node d : Int) (w : World) :
    Calls Tryd.prog 28 #[.agg #[.int .i64 x.f, .int .i64 x.t, .string x.l, .int .i64 x.n], .int .i64 node, .int .i64 d] w fun e w' => e = .returned (.tuple #[.int .i64 (follT node d x), .bool (follB node d x)]) ∧ Below w.heap.size w w' := by
  cases h1 : (d != 2) <;> cases h2 : (x.f == node) <;> cases h3 : (d != 1) <;> cases h4 : (x.t == node) <;>
  ( have HT := Lib.hid (show follT node d x = _ by unfold follT; rw [h1, h2, h3, h4])
    have HB := Lib.hid (show follB node d x = _ by unfold follB; rw [h1, h2, h3, h4])
    go_enter Tryd.func28, Tryd.ntmps28
    go_wp2_with fail
    exact bodyPost_ret (v := .tuple #[.int .i64 (follT node d x), .bool (follB node d x)]) (by rw [HT.out, HB.out]; simp [results, Tryd.results28, go_sem]) rfl ⟨rfl, (Below.refl _ _).alloc (Nat.le_refl _) _⟩)
end Go.Proofs.YtghhabailgfelaaDoor
namespace Go.Proofs.YtghhabailgfelaaDoor
open Go.RowKit

set_option maxRecDepth 100000 in
set_option maxHeartbeats 1000000 in
theorem gpHops_any (xs : List Hp) (v v' : Value) (B : Nat) (w : World) (hv : Sl 2 Hp.cells B w v xs) (hv' : Sl 2 Hp.cells B w v' xs) (hB : B ≤ w.heap.size) :
    Calls Tryd.prog 11 #[v, v'] w fun e w' => e = .returned (.bool true) ∧ Below w.heap.size w w' := by
  obtain ⟨p, cap, rfl⟩ := hv.form
  obtain ⟨p', cap', rfl⟩ := hv'.form
  have hm := hv.max
  have hm' := hv'.max
  unfold maxLen at hm hm'
  go_enter Tryd.func11, Tryd.ntmps11
  go_wp2_with fail
  go_loopw [5] (fun i wr => ∃ k : Nat, k ≤ xs.length ∧ i = .int .i64 k ∧ Below w.heap.size w wr) (fun i _ => xs.length - (intOf i).toNat)
  case atStart => exact ⟨0, Nat.zero_le _, rfl, Below.refl _ _⟩
  case round =>
    obtain ⟨k, hk, rfl, hbw⟩ := hrel
    have hsz := hbw.size
    have HB := Lib.hid hbw
    clear hbw
    by_cases hlt2 : k < xs.length
    · obtain ⟨b, off, rfl, hb, c0, c1⟩ := (hv.below (HB.out.mono hB)).atHop hlt2
      obtain ⟨b', off', rfl, hb', d0, d1⟩ := (hv'.below (HB.out.mono hB)).atHop hlt2
      obtain ⟨x, ex⟩ : ∃ x, x = xs[k] := ⟨_, rfl⟩
      rw [← ex] at c0 c1 d0 d1
      clear ex
      go_wp2_with fail
      go_still_tail 8, (by kernel_rfl)
      go_wp2_with fail
      go_roundw
      case rel => exact ⟨k + 1, by omega, by go_num, HB.out.drew⟩
      case measure => simp [intOf]; omega
    · obtain rfl : k = xs.length := by omega
      go_wp2_with fail
      go_ret
      exact ⟨rfl, HB.out⟩
end Go.Proofs.YtghhabailgfelaaDoor
namespace Go.Proofs.YtghhabailgfelaaDoor
theorem Tryd.own : ownKnob Tryd.prog.godebug = none := by kernel_rfl
theorem Tryd.laidOut : laidOutB Tryd.prog = true := by kernel_rfl
end Go.Proofs.YtghhabailgfelaaDoor
namespace Go.Proofs.YtghhabailgfelaaDoor
open Go.RowKit Go.MapKept

/-- A block of cells that is there, none of them frozen. -/
def Alive (w : World) (b : Nat) : Prop := ∃ c T f, w.heap[b]? = some (.cells c T f) ∧ ∀ o, w.frozen? ⟨b, o, none⟩ = false
theorem Alive.lt {w : World} {b : Nat} (h : Alive w b) : b < w.heap.size := by
  obtain ⟨c, T, f, h, _⟩ := h; exact (Array.getElem?_eq_some_iff.1 h).1
theorem Alive.of_block {w w' : World} {b : Nat} (h : Alive w b) (e : w'.heap[b]? = w.heap[b]?) : Alive w' b := by
  obtain ⟨c, T, f, h1, h2⟩ := h
  refine ⟨c, T, f, e.trans h1, fun o => ?_⟩
  rw [← h2 o]; unfold World.frozen?; simp only [e]
theorem Alive.of_cell {w : World} {b o : Nat} {x : Value} (h : w.cell? ⟨b, o, none⟩ = some x) (hf : ∀ o, w.frozen? ⟨b, o, none⟩ = false) : Alive w b := by
  unfold World.cell? at h
  cases hb : w.heap[b]? with
  | none => simp [hb] at h
  | some ob => cases ob <;> simp [hb] at h; exact ⟨_, _, _, hb, hf⟩
theorem Alive.below {B : Nat} {w w' : World} {b : Nat} (h : Alive w b) (hb : Below B w w') (hB : b < B) : Alive w' b := h.of_block (hb.block b hB)

theorem run_sameAddr_alive {P : Program} (w : World) {a b : Addr} (hne : a ≠ b) (ha : Alive w a.block) (hb : Alive w b.block) : (sameAddr a b).run P w = .ok false w := by
  by_cases hbl : a.block = b.block
  · simp [sameAddr, hbl, hne]
  · obtain ⟨ca, ta, fa, ha1, ha2⟩ := ha
    obtain ⟨cb, tb, fb, hb1, hb2⟩ := hb
    have fz : ∀ (x : Addr), (∀ o, w.frozen? ⟨x.block, o, none⟩ = false) → ∀ o s, w.frozen? ⟨x.block, o, s⟩ = false := fun x h o s => h o
    have fa' : ∀ o s, w.frozen? ⟨a.block, o, s⟩ = false := fun o s => ha2 o
    have fb' : ∀ o s, w.frozen? ⟨b.block, o, s⟩ = false := fun o s => hb2 o
    have fa0 : w.frozen? a = false := fa' a.off a.spot
    have fb0 : w.frozen? b = false := fb' b.off b.spot
    simp [sameAddr, hbl, fa0, fb0, noView, viewAt, World.shape?, mayBeOne, stringish, ha1, hb1, fa', fb']
theorem run_sameAddr_dec {P : Program} (w : World) {a b : Addr} (ha : Alive w a.block) (hb : Alive w b.block) : (sameAddr a b).run P w = .ok (decide (a = b)) w := by
  by_cases h : a = b
  · subst h; simp [run_sameAddr_same]
  · simp [h, run_sameAddr_alive w h ha hb]

/-- What the laws need of the type of a pair of pointers. -/
structure PairTy (P : Program) (k p q : TypeId) : Prop where
  und : P.underlying k = some (.struct (P.fieldsOf k))
  ptr : P.underlying p = some (.pointer q)
  fields : (P.fieldsOf k).toList.map (fun f => (f.name == "_", f.type, f.offset)) = [(false, p, 0), (false, p, 1)]
  info : (P.info? q).isSome = true
  size : P.cellsOf q ≠ 0
  stood : P.stoodInHeld k = false

/-- Two addresses of the same part of two trees. -/
abbrev Pa := Addr × Addr
def pairV (x : Pa) : Value := .agg #[.pointer (some x.1), .pointer (some x.2)]
def PAlive (w : World) (x : Pa) : Prop := Alive w x.1.block ∧ Alive w x.2.block
theorem PAlive.of_block {w w' : World} {x : Pa} (h : PAlive w x) (e : ∀ b, Alive w b → w'.heap[b]? = w.heap[b]?) : PAlive w' x := ⟨h.1.of_block (e _ h.1), h.2.of_block (e _ h.2)⟩

section
variable {P : Program} {k p q : TypeId}
theorem PairTy.two (T : PairTy P k p q) : ∃ f g, (P.fieldsOf k).toList = [f, g] ∧ f.name ≠ "_" ∧ g.name ≠ "_" ∧ f.type = p ∧ g.type = p ∧ f.offset = 0 ∧ g.offset = 1 := by
  have h := T.fields
  match hl : (P.fieldsOf k).toList, h with
  | [f, g], h =>
    simp at h
    exact ⟨f, g, rfl, h.1.1, h.2.1, h.1.2.1, h.2.2.1, h.1.2.2, h.2.2.2⟩
  | [], h => simp at h
  | [_], h => simp at h
  | _ :: _ :: _ :: _, h => simp at h
theorem run_part_ptr (T : PairTy P k p q) (w : World) {xs : Array Value} {off : Nat} {v : Value} (hx : xs[off]? = some v) : (part p xs off).run P w = .ok v w := by
  simp [part, isAgg, run_underlying T.ptr, hx]
theorem run_equalIn_ptr (T : PairTy P k p q) (w : World) (d : Nat) {a b : Addr} (ha : Alive w a.block) (hb : Alive w b.block) :
    (Op.equalIn (d + 1) p (.pointer (some a)) (.pointer (some b))).run P w = .ok (decide (a = b)) w := by
  obtain ⟨i, hi⟩ := Option.isSome_iff_exists.1 T.info
  have hs := T.size
  have hz : i.size ≠ 0 := by simpa [Program.cellsOf, hi] using hs
  simp [Op.equalIn, run_underlying T.ptr, sizeOf, typeInfo, hi, hz, run_sameAddr_dec w ha hb]
theorem run_equal_pair (T : PairTy P k p q) (w : World) {x y : Pa} (hx : PAlive w x) (hy : PAlive w y) : (Op.equal k (pairV x) (pairV y)).run P w = .ok (decide (x = y)) w := by
  obtain ⟨f, g, hl, f1, g1, f2, g2, f3, g3⟩ := T.two
  unfold Op.equal Op.maxDepth pairV
  rw [show (10000 : Nat) = 9998 + 1 + 1 from rfl, run_equalIn_struct w _ k _ _ T.und T.stood, hl]
  obtain ⟨x1, x2⟩ := x
  obtain ⟨y1, y2⟩ := y
  have p1 := fun (xs : Array Value) (off : Nat) (v : Value) (h : xs[off]? = some v) => run_part_ptr T w h
  have e1 := run_equalIn_ptr T w 9998 hx.1 hy.1
  have e2 := run_equalIn_ptr T w 9998 hx.2 hy.2
  have q1 := p1 #[.pointer (some x1), .pointer (some x2)] 0 _ rfl
  have q2 := p1 #[.pointer (some x1), .pointer (some x2)] 1 _ rfl
  have q3 := p1 #[.pointer (some y1), .pointer (some y2)] 0 _ rfl
  have q4 := p1 #[.pointer (some y1), .pointer (some y2)] 1 _ rfl
  simp only at e1 e2
  by_cases h1 : x1 = y1
  · by_cases h2 : x2 = y2
    · subst h1 h2
      simp at e1 e2
      simp [Op.eqFields, f1, g1, f2, g2, f3, g3, q3, q4, e1, e2, Result.andThen]
    · have e2' : (Op.equalIn (9998 + 1) p (.pointer (some x2)) (.pointer (some y2))).run P w = .ok false w := by rw [e2]; simp [h2]
      have e1' : (Op.equalIn (9998 + 1) p (.pointer (some x1)) (.pointer (some y1))).run P w = .ok true w := by rw [e1]; simp [h1]
      simp [Op.eqFields, f1, g1, f2, g2, f3, g3, q1, q2, q3, q4, e1', e2', Result.andThen, h2]
  · have e1' : (Op.equalIn (9998 + 1) p (.pointer (some x1)) (.pointer (some y1))).run P w = .ok false w := by rw [e1]; simp [h1]
    simp [Op.eqFields, f1, g1, f2, g2, f3, g3, q1, q3, e1', Result.andThen, h1]
theorem run_checkKey_pair (T : PairTy P k p q) (w : World) (em : Bool) (x : Pa) : (Instr.checkKey em 10000 k (pairV x)).run P w = .ok () w := by
  obtain ⟨f, g, hl, f1, g1, f2, g2, f3, g3⟩ := T.two
  have q1 := run_part_ptr T w (xs := #[.pointer (some x.1), .pointer (some x.2)]) (off := 0) rfl
  have q2 := run_part_ptr T w (xs := #[.pointer (some x.1), .pointer (some x.2)]) (off := 1) rfl
  have c1 : ∀ a, (Instr.checkKey em 9999 p (.pointer (some a))).run P w = .ok () w := fun a => by
    rw [show (9999 : Nat) = 9998 + 1 from rfl]; unfold Instr.checkKey; simp [run_underlying T.ptr]
  rw [show (10000 : Nat) = 9999 + 1 from rfl]
  unfold Instr.checkKey pairV
  simp only [Sem.run_bind, run_underlying T.und, Result.andThen_ok]
  rw [← Array.forIn_toList, hl]
  simp [f1, g1, f2, g2, f3, g3, q1, q2, c1, Result.andThen]

theorem findNow_struct (fs : Array Field) (x : Value) (l : List MapEntry) (i : Nat) (h : l ≠ []) : Instr.findNow (.struct fs) x l i = none := by
  cases l with
  | nil => exact absurd rfl h
  | cons e l => simp [Instr.findNow, Instr.sameNow]
/-- Entries at pairs, each with true. -/
def PEnts (w : World) (es : List MapEntry) (S : List Pa) : Prop := (∀ e ∈ es, ∃ y ∈ S, e.key = pairV y ∧ e.val = .bool true) ∧ ∀ y ∈ S, PAlive w y ∧ ∃ e ∈ es, e.key = pairV y
theorem run_findAsking (T : PairTy P k p q) (w : World) {x : Pa} (hx : PAlive w x) (S : List Pa) : ∀ (es : List MapEntry) (i : Nat), (∀ e ∈ es, ∃ y ∈ S, e.key = pairV y ∧ e.val = .bool true) → (∀ y ∈ S, PAlive w y) →
    ((Instr.findAsking k (pairV x) es i).run P w = .ok none w ∧ ∀ e ∈ es, e.key ≠ pairV x) ∨ ((∃ j, (Instr.findAsking k (pairV x) es i).run P w = .ok (some (j, .bool true)) w) ∧ ∃ e ∈ es, e.key = pairV x)
  | [], i, _, _ => .inl ⟨rfl, by simp⟩
  | e :: es, i, h, hS => by
    obtain ⟨y, hy, ek, ev⟩ := h e (by simp)
    have he := run_equal_pair T w hx (hS y hy)
    unfold Instr.findAsking
    rw [ek, ev]
    by_cases hxy : x = y
    · refine .inr ⟨⟨i, ?_⟩, e, by simp, by rw [ek, hxy]⟩
      simp [hxy] at he
      simp [hxy, he, Result.andThen]
    · have he' : (Op.equal k (pairV x) (pairV y)).run P w = .ok false w := by rw [he]; simp [hxy]
      have hne : e.key ≠ pairV x := by
        rw [ek]; intro h0; apply hxy
        obtain ⟨x1, x2⟩ := x; obtain ⟨y1, y2⟩ := y
        simp [pairV] at h0
        rw [h0.1, h0.2]
      rcases run_findAsking T w hx S es (i + 1) (fun e he => h e (by simp [he])) hS with ⟨h1, h2⟩ | ⟨⟨j, h1⟩, e', h2, h3⟩
      · refine .inl ⟨?_, ?_⟩
        · simp [he', h1, Result.andThen]
        · intro e' he'
          rcases List.mem_cons.1 he' with rfl | he'
          · exact hne
          · exact h2 e' he'
      · refine .inr ⟨⟨j, ?_⟩, e', by simp [h2], h3⟩
        simp [he', h1, Result.andThen]
theorem run_findKey_pair (T : PairTy P k p q) (w : World) {x : Pa} (hx : PAlive w x) {S : List Pa} {es : List MapEntry} (h : PEnts w es S) :
    ((Instr.findKey k (pairV x) es).run P w = .ok none w ∧ x ∉ S) ∨ ((∃ j, (Instr.findKey k (pairV x) es).run P w = .ok (some (j, .bool true)) w) ∧ x ∈ S) := by
  have hin : x ∈ S ↔ ∃ e ∈ es, e.key = pairV x := by
    constructor
    · intro hx; exact (h.2 x hx).2
    · rintro ⟨e, he, ek⟩
      obtain ⟨y, hy, ek', _⟩ := h.1 e he
      have : x = y := by
        obtain ⟨x1, x2⟩ := x; obtain ⟨y1, y2⟩ := y
        rw [ek] at ek'; simp [pairV] at ek'
        rw [ek'.1, ek'.2]
      rw [this]; exact hy
  cases es with
  | nil =>
    refine .inl ⟨?_, fun hx => by obtain ⟨e, he, _⟩ := hin.1 hx; simp at he⟩
    simp [Instr.findKey, run_underlying T.und, Instr.findNow, Result.andThen]
  | cons e es =>
    have hn := findNow_struct (P.fieldsOf k) (pairV x) (e :: es) 0 (by simp)
    have hr : (Instr.findKey k (pairV x) (e :: es)).run P w = (Instr.findAsking k (pairV x) (e :: es)).run P w := by
      simp [Instr.findKey, run_underlying T.und, hn, Result.andThen]
    rcases run_findAsking T w hx S (e :: es) 0 h.1 (fun y hy => (h.2 y hy).1) with ⟨h1, h2⟩ | ⟨⟨j, h1⟩, h2⟩
    · exact .inl ⟨hr.trans h1, fun hx => by obtain ⟨e', he', ek⟩ := hin.1 hx; exact h2 e' he' ek⟩
    · exact .inr ⟨⟨j, hr.trans h1⟩, hin.2 h2⟩

/-- Block b is a map with the pairs S, each true. -/
def Seen (w : World) (b : Nat) (S : List Pa) : Prop := ∃ es clock, w.heap[b]? = some (.map es clock) ∧ PEnts w es.toList S
theorem Seen.lt {w : World} {b : Nat} {S : List Pa} (h : Seen w b S) : b < w.heap.size := by
  obtain ⟨es, c, h, _⟩ := h; exact (Array.getElem?_eq_some_iff.1 h).1
theorem Seen.made (w : World) : Seen (w.alloc (.map #[] 0)) w.heap.size [] := ⟨#[], 0, (MapKept.heap_alloc w _).1, by simp [PEnts]⟩
theorem Seen.alive {w : World} {b : Nat} {S : List Pa} (h : Seen w b S) : ∀ y ∈ S, PAlive w y := by
  obtain ⟨es, c, _, h⟩ := h; exact fun y hy => (h.2 y hy).1
theorem Seen.of_blocks {w w' : World} {b : Nat} {S : List Pa} (h : Seen w b S) (hb : w'.heap[b]? = w.heap[b]?) (ha : ∀ y ∈ S, PAlive w' y) : Seen w' b S := by
  obtain ⟨es, c, h, h1, h2⟩ := h
  exact ⟨es, c, hb.trans h, h1, fun y hy => ⟨ha y hy, (h2 y hy).2⟩⟩
theorem run_lookup_seen (T : PairTy P k p q) {t e : TypeId} (ht : P.underlying t = some (.map k e)) (hz : ∀ w, (zeroValue e).run P w = .ok (.bool false) w) {w : World} {b : Nat} {S : List Pa} (h : Seen w b S) {x : Pa} (hx : PAlive w x) :
    (Instr.lookup t (.map (some b)) (pairV x) false).run P w = .ok (.bool (decide (x ∈ S))) w := by
  obtain ⟨es, c, hb, hE⟩ := h
  have hc := run_checkKey_pair T w es.isEmpty x
  rcases run_findKey_pair T w hx hE with ⟨h1, h2⟩ | ⟨⟨j, h1⟩, h2⟩
  · simp [Instr.lookup, run_underlying ht, MapKept.run_getObj_map hb, hc, h1, h2, hz, Result.andThen]
  · simp [Instr.lookup, run_underlying ht, MapKept.run_getObj_map hb, hc, h1, h2, Result.andThen]
theorem run_update_seen (T : PairTy P k p q) {t e : TypeId} (ht : P.underlying t = some (.map k e)) {w : World} {b : Nat} {S : List Pa} (h : Seen w b S) {x : Pa} (hx : PAlive w x) (hn : x ∉ S) :
    ∃ o, (Instr.mapUpdate t (.map (some b)) (pairV x) (.bool true)).run P w = .ok () { w with heap := w.heap.setIfInBounds b o } ∧ Seen { w with heap := w.heap.setIfInBounds b o } b (x :: S) := by
  obtain ⟨es, c, hb, hE⟩ := h
  have hc := run_checkKey_pair T w false x
  rcases run_findKey_pair T w hx hE with ⟨h1, h2⟩ | ⟨⟨j, h1⟩, h2⟩
  · refine ⟨.map (es.push { key := pairV x, val := .bool true, born := c }) (c + 1), ?_, ?_⟩
    · simp [Instr.mapUpdate, run_underlying ht, MapKept.run_getObj_map hb, hc, h1, MapKept.run_setObj_map _ hb, Result.andThen]
    · have hal : ∀ y, PAlive w y → PAlive { w with heap := w.heap.setIfInBounds b (.map (es.push { key := pairV x, val := .bool true, born := c }) (c + 1)) } y := fun y hy => by
        refine hy.of_block fun g hg => (heap_set hb).2 g ?_
        rintro rfl
        obtain ⟨c', T', f', h', _⟩ := hg
        rw [hb] at h'; cases h'
      refine ⟨_, _, (heap_set hb).1, ?_, ?_⟩
      · intro e' he'
        simp only [Array.toList_push, List.mem_append, List.mem_singleton] at he'
        rcases he' with he' | rfl
        · obtain ⟨y, hy, h3⟩ := hE.1 e' he'
          exact ⟨y, by simp [hy], h3⟩
        · exact ⟨x, by simp, rfl, rfl⟩
      · intro y hy
        rcases List.mem_cons.1 hy with rfl | hy
        · exact ⟨hal _ hx, { key := pairV y, val := .bool true, born := c }, by simp, rfl⟩
        · obtain ⟨h3, e', h4, h5⟩ := hE.2 y hy
          exact ⟨hal _ h3, e', by simp [h4], h5⟩
  · exact absurd h2 hn
end

theorem wpList_lookup_seen {P : Program} {k p q : TypeId} (T : PairTy P k p q) (w : World) {ops : Array Oper} {rest : List Oper} {o : Oper} {a : Act} {Q : Exit → Act → World → Prop}
    (hg : o.guard = none) (m y : Operand) (t e : TypeId) (hop : o.op = Op.lookup t m y false) (ht : P.underlying t = some (.map k e)) (hz : ∀ w, (zeroValue e).run P w = .ok (.bool false) w)
    (b : Nat) (S : List Pa) (hm : a.eval m = .map (some b)) (h : Seen w b S) (x : Pa) (hy : a.eval y = pairV x) (hx : PAlive w x)
    (hK : wpList P ops Q rest (a.put o.dst (.bool (decide (x ∈ S)))) w) : wpList P ops Q (o :: rest) a w := by
  refine wpList_plain hg fun K' hK' => ?_
  have hrun := run_lookup_seen T ht hz h hx
  unfold Oper.wp
  simp [execOp, hop, hm, hy, hrun, Result.andThen]
  exact hK' _ _ hK
theorem wpList_update_seen {P : Program} {k p q : TypeId} (T : PairTy P k p q) (w : World) {ops : Array Oper} {rest : List Oper} {o : Oper} {a : Act} {Q : Exit → Act → World → Prop}
    (hg : o.guard = none) (m y v : Operand) (t e : TypeId) (hop : o.op = Op.mapUpdate t m y v) (ht : P.underlying t = some (.map k e))
    (b : Nat) (S : List Pa) (hm : a.eval m = .map (some b)) (h : Seen w b S) (x : Pa) (hy : a.eval y = pairV x) (hv : a.eval v = .bool true) (hx : PAlive w x) (hn : x ∉ S)
    (hK : ∀ w', Seen w' b (x :: S) → w.grownBy w' (some b) → w'.heap.size = w.heap.size → wpList P ops Q rest (a.put o.dst undef) w') : wpList P ops Q (o :: rest) a w := by
  refine wpList_plain hg fun K' hK' => ?_
  have hb : ∃ es c, w.heap[b]? = some (.map es c) := by obtain ⟨es, c, hb, _⟩ := h; exact ⟨es, c, hb⟩
  obtain ⟨es, c, hb⟩ := hb
  obtain ⟨ob, hrun, hs⟩ := run_update_seen T ht h hx hn
  unfold Oper.wp
  simp [execOp, hop, hm, hy, hv, hrun, Result.andThen]
  exact hK' _ _ (hK _ hs ⟨rfl, rfl, rfl, by simp, fun i _ hi => (heap_set hb).2 i (fun e => hi (by rw [e]))⟩ (by simp))
end Go.Proofs.YtghhabailgfelaaDoor
namespace Go.Proofs.YtghhabailgfelaaDoor
open Go.RowKit

/-- Trees: the parts of a node, whether two nodes agree but for their parts, how many nodes there are. -/
structure Tr (α : Type) where
  kids : α → List α
  top : α → α → Bool
  sz : α → Nat
  hsz : ∀ a, 1 + ((kids a).map sz).sum ≤ sz a
  ext : ∀ a b, top a b = true → kids a = kids b → a = b
  refl : ∀ a, top a a = true
structure Pr (α : Type) where
  p : Addr
  q : Addr
  a : α
  b : α
def Pr.pa {α : Type} (r : Pr α) : Pa := (r.p, r.q)
variable {α : Type}
theorem Tr.kid_lt (T : Tr α) {a x : α} (h : x ∈ T.kids a) : T.sz x < T.sz a := by
  have key : ∀ l : List α, x ∈ l → T.sz x ≤ (l.map T.sz).sum := by
    intro l
    induction l with
    | nil => intro h; simp at h
    | cons y l ih =>
      intro h
      rcases List.mem_cons.1 h with rfl | h
      · simp
      · have := ih h; simp; omega
  have := key _ h; have := T.hsz a; omega
/-- What is held: W are the pairs to look at, S those that have been looked at. -/
structure TInv (T : Tr α) (a0 b0 : α) (W S : List (Pr α)) : Prop where
  eq : a0 = b0 → ∀ r, r ∈ W ∨ r ∈ S → r.a = r.b
  has : ∃ r, (r ∈ W ∨ r ∈ S) ∧ r.a = a0 ∧ r.b = b0
  cl : ∀ r ∈ S, T.top r.a r.b = true ∧ (T.kids r.a).length = (T.kids r.b).length ∧ ∀ (i : Nat) (h : i < (T.kids r.a).length) (h' : i < (T.kids r.b).length), ∃ s, (s ∈ W ∨ s ∈ S) ∧ s.a = (T.kids r.a)[i] ∧ s.b = (T.kids r.b)[i]
theorem TInv.start (T : Tr α) (p q : Addr) (a0 b0 : α) : TInv T a0 b0 [⟨p, q, a0, b0⟩] [] :=
  ⟨fun h r hr => by simp at hr; subst hr; exact h, ⟨⟨p, q, a0, b0⟩, by simp, rfl, rfl⟩, fun r hr => by simp at hr⟩
theorem TInv.skip {T : Tr α} {a0 b0 : α} {W S : List (Pr α)} {r s : Pr α} (h : TInv T a0 b0 (W ++ [r]) S) (hs : s ∈ S) (h1 : s.a = r.a) (h2 : s.b = r.b) : TInv T a0 b0 W S := by
  have mv : ∀ x, (x ∈ W ++ [r] ∨ x ∈ S) → ∃ y, (y ∈ W ∨ y ∈ S) ∧ y.a = x.a ∧ y.b = x.b := by
    intro x hx
    rcases hx with hx | hx
    · rcases List.mem_append.1 hx with hx | hx
      · exact ⟨x, .inl hx, rfl, rfl⟩
      · simp at hx; subst hx; exact ⟨s, .inr hs, h1, h2⟩
    · exact ⟨x, .inr hx, rfl, rfl⟩
  refine ⟨fun he x hx => h.eq he x (by rcases hx with hx | hx; exact .inl (by simp [hx]); exact .inr hx), ?_, fun x hx => ?_⟩
  · obtain ⟨x, hx, e1, e2⟩ := h.has
    obtain ⟨y, hy, e3, e4⟩ := mv x hx
    exact ⟨y, hy, e3.trans e1, e4.trans e2⟩
  · obtain ⟨g1, g2, g3⟩ := h.cl x hx
    refine ⟨g1, g2, fun i hi hi' => ?_⟩
    obtain ⟨z, hz, e1, e2⟩ := g3 i hi hi'
    obtain ⟨y, hy, e3, e4⟩ := mv z hz
    exact ⟨y, hy, e3.trans e1, e4.trans e2⟩
theorem TInv.differ {T : Tr α} {a0 b0 : α} {W S : List (Pr α)} {r : Pr α} (h : TInv T a0 b0 (W ++ [r]) S) (hd : T.top r.a r.b = false ∨ (T.kids r.a).length ≠ (T.kids r.b).length) : a0 ≠ b0 := by
  intro he
  have := h.eq he r (.inl (by simp))
  rw [this] at hd
  rcases hd with hd | hd
  · rw [T.refl] at hd; cases hd
  · exact hd rfl
/-- The parts' pairs: N are they, in their order. -/
def KidPairs (T : Tr α) (r : Pr α) (N : List (Pr α)) : Prop := N.length = (T.kids r.a).length ∧ ∀ (i : Nat) (h : i < N.length), (T.kids r.a)[i]? = some N[i].a ∧ (T.kids r.b)[i]? = some N[i].b
theorem TInv.push {T : Tr α} {a0 b0 : α} {W S N : List (Pr α)} {r : Pr α} (h : TInv T a0 b0 (W ++ [r]) S) (ht : T.top r.a r.b = true) (hl : (T.kids r.a).length = (T.kids r.b).length) (hN : KidPairs T r N) : TInv T a0 b0 (W ++ N) (r :: S) := by
  have mv : ∀ x, (x ∈ W ++ [r] ∨ x ∈ S) → (x ∈ W ++ N ∨ x ∈ r :: S) := by
    intro x hx
    rcases hx with hx | hx
    · rcases List.mem_append.1 hx with hx | hx
      · exact .inl (by simp [hx])
      · simp at hx; subst hx; exact .inr (by simp)
    · exact .inr (by simp [hx])
  refine ⟨fun he x hx => ?_, ?_, fun x hx => ?_⟩
  · have hr := h.eq he r (.inl (by simp))
    rcases hx with hx | hx
    · rcases List.mem_append.1 hx with hx | hx
      · exact h.eq he x (.inl (by simp [hx]))
      · obtain ⟨i, hi, rfl⟩ := List.mem_iff_getElem.1 hx
        obtain ⟨g1, g2⟩ := hN.2 i hi
        rw [hr] at g1
        exact Option.some.inj (g1.symm.trans g2)
    · rcases List.mem_cons.1 hx with rfl | hx
      · exact hr
      · exact h.eq he x (.inr hx)
  · obtain ⟨x, hx, e⟩ := h.has
    exact ⟨x, mv x hx, e⟩
  · rcases List.mem_cons.1 hx with rfl | hx
    · refine ⟨ht, hl, fun i hi hi' => ?_⟩
      have hi2 : i < N.length := by rw [hN.1]; exact hi
      obtain ⟨g1, g2⟩ := hN.2 i hi2
      rw [List.getElem?_eq_getElem hi] at g1
      rw [List.getElem?_eq_getElem hi'] at g2
      exact ⟨N[i], .inl (by simp), (Option.some.inj g1).symm, (Option.some.inj g2).symm⟩
    · obtain ⟨g1, g2, g3⟩ := h.cl x hx
      refine ⟨g1, g2, fun i hi hi' => ?_⟩
      obtain ⟨z, hz, e⟩ := g3 i hi hi'
      exact ⟨z, mv z hz, e⟩
theorem TInv.done {T : Tr α} {a0 b0 : α} {S : List (Pr α)} (h : TInv T a0 b0 [] S) : a0 = b0 := by
  have key : ∀ (n : Nat) (r : Pr α), T.sz r.a < n → r ∈ S → r.a = r.b := by
    intro n
    induction n with
    | zero => intro r h; omega
    | succ n ih =>
      intro r hn hr
      obtain ⟨g1, g2, g3⟩ := h.cl r hr
      refine T.ext _ _ g1 (List.ext_getElem g2 fun i hi hi' => ?_)
      obtain ⟨s, hs, e1, e2⟩ := g3 i hi hi'
      rcases hs with hs | hs
      · simp at hs
      · rw [← e1, ← e2]
        refine ih s ?_ hs
        have := T.kid_lt (a := r.a) (x := s.a) (by rw [e1]; exact List.getElem_mem hi)
        omega
  obtain ⟨r, hr, e1, e2⟩ := h.has
  rcases hr with hr | hr
  · simp at hr
  · rw [← e1, ← e2]; exact key _ r (Nat.lt_succ_self _) hr
/-- How many nodes are still to be looked at. -/
def left (T : Tr α) (W : List (Pr α)) : Nat := (W.map fun r => T.sz r.a).sum
theorem left_append (T : Tr α) (U V : List (Pr α)) : left T (U ++ V) = left T U + left T V := by unfold left; simp
theorem left_one (T : Tr α) (r : Pr α) : left T [r] = T.sz r.a := by unfold left; simp
theorem sz_pos (T : Tr α) (a : α) : 0 < T.sz a := by have := T.hsz a; omega
theorem length_left (T : Tr α) (W : List (Pr α)) : W.length ≤ left T W := by
  induction W with
  | nil => simp
  | cons r W ih => have := sz_pos T r.a; unfold left at *; simp; omega
theorem KidPairs.left {T : Tr α} {r : Pr α} {N : List (Pr α)} (h : KidPairs T r N) : left T N + 1 ≤ T.sz r.a := by
  have e : N.map (fun r => T.sz r.a) = (T.kids r.a).map T.sz := by
    refine List.ext_getElem (by simp [h.1]) fun i hi hi' => ?_
    simp at hi hi'
    obtain ⟨g1, _⟩ := h.2 i hi
    rw [List.getElem?_eq_getElem hi'] at g1
    simp [Option.some.inj g1]
  have h2 := T.hsz r.a; rw [← e] at h2; unfold Proofs.YtghhabailgfelaaDoor.left; omega
/-- The pairs of parts in two slices. -/
def mkPairs (sz b b' : Nat) : Nat → Nat → List α → List α → List (Pr α)
  | o, o', x :: l, y :: l' => ⟨⟨b, o, none⟩, ⟨b', o', none⟩, x, y⟩ :: mkPairs sz b b' (o + sz) (o' + sz) l l'
  | _, _, _, _ => []
theorem mkPairs_length (sz b b' : Nat) : ∀ (l l' : List α) (o o' : Nat), l.length = l'.length → (mkPairs sz b b' o o' l l').length = l.length
  | [], _, _, _, _ => by simp [mkPairs]
  | x :: l, [], _, _, h => by simp at h
  | x :: l, y :: l', o, o', h => by simp only [mkPairs, List.length_cons]; rw [mkPairs_length sz b b' l l' _ _ (by simpa using h)]
theorem mkPairs_get (sz b b' : Nat) : ∀ (l l' : List α) (o o' : Nat) (i : Nat) (h1 : i < l.length) (h2 : i < l'.length), (mkPairs sz b b' o o' l l')[i]? = some ⟨⟨b, o + i * sz, none⟩, ⟨b', o' + i * sz, none⟩, l[i], l'[i]⟩
  | [], _, _, _, i, h1, _ => by simp at h1
  | x :: l, [], _, _, i, _, h2 => by simp at h2
  | x :: l, y :: l', o, o', 0, _, _ => by simp [mkPairs]
  | x :: l, y :: l', o, o', i + 1, h1, h2 => by
    simp only [mkPairs, List.getElem?_cons_succ]
    rw [mkPairs_get sz b b' l l' (o + sz) (o' + sz) i (by simpa using h1) (by simpa using h2)]
    rw [show o + sz + i * sz = o + (i + 1) * sz by rw [Nat.add_mul]; omega, show o' + sz + i * sz = o' + (i + 1) * sz by rw [Nat.add_mul]; omega]
    simp
theorem mkPairs_kids (T : Tr α) (r : Pr α) (sz b b' o o' : Nat) (hl : (T.kids r.a).length = (T.kids r.b).length) : KidPairs T r (mkPairs sz b b' o o' (T.kids r.a) (T.kids r.b)) := by
  refine ⟨mkPairs_length sz b b' _ _ o o' hl, fun i hi => ?_⟩
  rw [mkPairs_length sz b b' _ _ o o' hl] at hi
  have h1 := mkPairs_get sz b b' (T.kids r.a) (T.kids r.b) o o' i hi (by omega)
  have h2 : (mkPairs sz b b' o o' (T.kids r.a) (T.kids r.b))[i] = ⟨⟨b, o + i * sz, none⟩, ⟨b', o' + i * sz, none⟩, (T.kids r.a)[i], (T.kids r.b)[i]⟩ := by
    rw [List.getElem?_eq_getElem (by rw [mkPairs_length sz b b' _ _ o o' hl]; exact hi)] at h1
    exact Option.some.inj h1
  rw [h2]
  exact ⟨List.getElem?_eq_getElem hi, List.getElem?_eq_getElem (by omega)⟩
/-- The cells of the pairs. -/
def pcells (r : Pa) : List Value := [.pointer (some r.1), .pointer (some r.2)]
def wcells (W : List (Pr α)) : List Value := W.flatMap fun r => pcells r.pa
theorem wcells_append (U V : List (Pr α)) : wcells (U ++ V) = wcells U ++ wcells V := by unfold wcells; simp
theorem wcells_one (r : Pr α) : wcells [r] = [.pointer (some r.p), .pointer (some r.q)] := by simp [wcells, pcells, Pr.pa]
theorem wcells_length (W : List (Pr α)) : (wcells W).length = W.length * 2 := by
  induction W with
  | nil => rfl
  | cons r W ih => rw [show r :: W = [r] ++ W from rfl, wcells_append, List.length_append, ih]; simp [wcells_one]; omega
theorem wcells_last (W : List (Pr α)) (r : Pr α) : (wcells (W ++ [r]))[W.length * 2]? = some (.pointer (some r.p)) ∧ (wcells (W ++ [r]))[W.length * 2 + 1]? = some (.pointer (some r.q)) := by
  have h := wcells_length W
  rw [wcells_append, wcells_one]
  constructor
  · rw [List.getElem?_append_right (by omega), h]; simp
  · rw [List.getElem?_append_right (by omega), h]; simp
theorem grown_below {w w' : World} {g B : Nat} (h : w.grownBy w' (some g)) (hB : B ≤ g) (hs : B ≤ w.heap.size) : Below B w w' :=
  ⟨h.os, h.tape, h.output, h.size, fun i hi => h.block i (by omega) (fun e => by cases e; omega)⟩
theorem Seen.next {w w' : World} {b : Nat} {S : List Pa} {B : Nat} (h : Seen w b S) (hS : ∀ y ∈ S, y.1.block < B ∧ y.2.block < B) (hb : Below B w w') (he : w'.heap[b]? = w.heap[b]?) : Seen w' b S :=
  h.of_blocks he fun y hy => ⟨(h.alive y hy).1.below hb (hS y hy).1, (h.alive y hy).2.below hb (hS y hy).2⟩
end Go.Proofs.YtghhabailgfelaaDoor
