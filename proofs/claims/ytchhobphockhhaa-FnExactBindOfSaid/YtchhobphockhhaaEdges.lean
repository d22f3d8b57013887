/- impl.OutEdges, impl.InEdges and the model's: the numbers of the edges that begin, or end, at a node. -/
import Derived.Test.YtchhobphockhhaaMark
import Derived.Test.YtchhobphockhhaaSGValid
namespace Go.Proofs.Ytchhobphockhhaa
open Go.RowKit

theorem grown_of_below {w w' : World} (h : Below w.heap.size w w') : w.grownBy w' none := ⟨h.os, h.tape, h.output, h.size, fun k hk _ => h.block k hk⟩
theorem ownsRow_below {w w' : World} {base : Nat} {e : TypeId} {size : Nat} {v : Value} {n : Nat} {xs : List Value} (h : w.ownsRow base e size v n xs) (hb : Below w.heap.size w w') : w'.ownsRow base e size v n xs :=
  h.kept (grown_of_below hb) (Classical.em _)
theorem own_of_row {w : World} {base : Nat} {e : TypeId} {v : Value} {xs : List Int} (h : w.ownsRow base e 1 v xs.length (xs.map (Value.int .i64))) : ∃ F, OwnSl 1 intCells w v xs F ∧ ∀ x ∈ F, base ≤ x := by
  obtain ⟨hl, h⟩ := h
  rcases h with ⟨rfl, h0⟩ | ⟨g, cap, cur, rfl, hb, hg, hn, hc, hs, ht⟩
  · exact ⟨[], ⟨none, 0, 0, rfl, h0.symm, Nat.le_refl _, Nat.zero_le _, .inl ⟨List.eq_nil_of_length_eq_zero h0, rfl⟩⟩, by simp⟩
  · refine ⟨[g], ⟨_, _, _, rfl, rfl, hn, hc, .inr ⟨g, 0, rfl, rfl, (Array.getElem?_eq_some_iff.1 hg).1, fun o => by simp [World.frozen?, hg], fun i hi j x hx => ?_⟩⟩, by simpa using hb⟩
    have hj : j = 0 := by
      have := (List.getElem?_eq_some_iff.1 hx).1
      simp [intCells] at this; omega
    subst hj
    have hx' : x = .int .i64 xs[i] := by simpa [intCells] using hx.symm
    have e1 : (cur.toList.take (xs.length * 1))[i]? = some (.int .i64 xs[i]) := by rw [ht]; simp [hi]
    rw [List.getElem?_take_of_lt (by omega)] at e1
    simp only [World.cell?, hg, Nat.zero_add, Nat.mul_one, Nat.add_zero]
    rw [hx', ← e1]; simp

/-- The places i < k whose edge answers yes. -/
def pick (p : Ed → Bool) (es : List Ed) : Nat → List Int
  | 0 => []
  | k + 1 => if (es[k]?.map p).getD false then pick p es k ++ [(k : Int)] else pick p es k
theorem pick_yes {p : Ed → Bool} {es : List Ed} {k : Nat} (h : k < es.length) (hp : p es[k] = true) : pick p es (k + 1) = pick p es k ++ [(k : Int)] := by
  simp [pick, List.getElem?_eq_getElem h, hp]
theorem pick_no {p : Ed → Bool} {es : List Ed} {k : Nat} (h : k < es.length) (hp : p es[k] = false) : pick p es (k + 1) = pick p es k := by
  simp [pick, List.getElem?_eq_getElem h, hp]
theorem pick_le (p : Ed → Bool) (es : List Ed) : ∀ k, (pick p es k).length ≤ k
  | 0 => Nat.le_refl _
  | k + 1 => by have := pick_le p es k; unfold pick; split <;> simp <;> omega
theorem gv_len {g : Gr} (h : gv g = true) : g.es.length ≤ 14 := by
  unfold gv at h
  simp only [Bool.and_eq_true, decide_eq_true_eq] at h
  omega
theorem infoInt : (Try.prog.info? 3).map (fun i => (i.zero, i.size, i.bytes)) = some (some (.int .i64 0), 1, 8) := by kernel_rfl

def byOut (node : Int) (x : Ed) : Bool := x.f == node
def edgesOut (g : Gr) (node : Int) : List Int := if gv g then pick (byOut node) g.es g.es.length else []

set_option maxHeartbeats 400000 in
theorem fnOut_any (x : Ed) (node : Int) (c : Nat) (w : World) (hc : w.cell? ⟨c, 0, none⟩ = some (.int .i64 node)) :
    Calls Try.prog 90 #[.agg #[.int .i64 x.f, .int .i64 x.t, .string x.l, .int .i64 x.n], .pointer (some ⟨c, 0, none⟩)] w fun e w' => e = .returned (.bool (byOut node x)) ∧ Below w.heap.size w w' := by
  have hlt := World.block_lt_of_cell? w _ hc
  go_enter Try.func90, Try.ntmps90
  go_wp2_with fail
  go_ret
  exact ⟨rfl, (Below.refl _ _).alloc (Nat.le_refl _) _⟩

set_option maxRecDepth 100000 in
set_option maxHeartbeats 1000000 in
theorem edgesWhereOut_any (g : Gr) (v : Value) (node : Int) (c : Nat) (B : Nat) (w : World) (hg : g.At B w v) (hB : B ≤ w.heap.size) (hok : g.Ok) (hc : w.cell? ⟨c, 0, none⟩ = some (.int .i64 node)) :
    Calls Try.prog 89 #[v, .func (.func 90) #[] #[.pointer (some ⟨c, 0, none⟩)]] w fun e w' => ∃ v' F, e = .returned v' ∧ OwnSl 1 intCells w' v' (edgesOut g node) F ∧ (∀ x ∈ F, w.heap.size ≤ x) ∧ Below w.heap.size w w' := by
  have HG := Lib.hid hg
  have hcl : c < w.heap.size := World.block_lt_of_cell? w _ hc
  obtain ⟨a, b, rfl, ha, hb⟩ := hg
  obtain ⟨p, cap, rfl⟩ := hb.form
  have hm := hb.max
  unfold maxLen at hm
  obtain ⟨i0, hi, hz0, hz1, hz2⟩ := info_parts infoInt
  go_enter Try.func89, Try.ntmps89
  go_wp2_with fail
  have HV := Lib.hid ((Below.refl w.heap.size w).alloc (Nat.le_refl _) (.cells #[a, .slice p g.es.length cap] 55))
  refine (graphValid_any g _ B _ (HG.out.below (HV.out.mono hB)) (by simp; omega) hok).mono ?_
  rintro e w1 ⟨rfl, hb1⟩
  have hs1 : w.heap.size < w1.heap.size := by have := hb1.size; simp at this; omega
  have c1 := new_cell hb1 (j := 1) rfl
  have HB1 := Lib.hid (below_past hb1)
  clear hb1
  by_cases hgv : gv g = true
  · have h14 := gv_len hgv
    have HE := Lib.hid (show edgesOut g node = pick (byOut node) g.es g.es.length by unfold edgesOut; rw [if_pos hgv])
    go_wp2_with fail
    clear c1
    go_loopw [5, 14] (fun fnd i wr => ∃ k : Nat, k ≤ g.es.length ∧ i = .int .i64 k ∧ wr.ownsRow w.heap.size 3 1 fnd (pick (byOut node) g.es k).length ((pick (byOut node) g.es k).map (Value.int .i64)) ∧ Below w.heap.size w wr) (fun _ i _ => g.es.length - (intOf i).toNat)
    case atStart => exact ⟨0, Nat.zero_le _, rfl, World.ownsRow_nil _ _ _ _, HB1.out⟩
    case round =>
      obtain ⟨k, hk, rfl, hown, hbw⟩ := hrel
      have hsz := hbw.size
      have HB := Lib.hid hbw
      have HO := Lib.hid hown
      have hpl := pick_le (byOut node) g.es k
      clear hbw hown
      by_cases hlt : k < g.es.length
      · obtain ⟨b, off, rfl, hbb, c0, c1, c2, c3⟩ := (hb.below (HB.out.mono hB)).ed hlt
        have hyes := Lib.hid (fun h => pick_yes (p := byOut node) hlt h)
        have hno := Lib.hid (fun h => pick_no (p := byOut node) hlt h)
        obtain ⟨x, ex⟩ : ∃ x, x = g.es[k] := ⟨_, rfl⟩
        rw [← ex] at c0 c1 c2 c3 hyes hno
        clear ex
        go_wp2_with fail
        refine (fnOut_any x node c _ (keepc (HB.out.alloc hsz _) hcl hc)).mono ?_
        rintro e w2 ⟨rfl, hb2⟩
        have hs2 : wr.heap.size < w2.heap.size := by have := hb2.size; simp at this; omega
        have HO2 := Lib.hid (ownsRow_below (HO.out.alloc _) hb2)
        have HB2 := Lib.hid (HB.out.trans ((below_past hb2).mono hsz))
        clear hb2
        cases hy : byOut node x with
        | true =>
          have HY := Lib.hid (hyes.out hy)
          clear hyes hno
          go_wp2_with (at_builtin; refine wpList_append_own _ rfl _ _ 23 rfl w.heap.size 3 i0 (.int .i64 0) 1 8 Try.underlying23 hi hz0 hz1 hz2 rfl (by decide) _ _ _ rfl (HO2.out.alloc _) ⟨w2.heap.size, 0, none⟩ 1 1 [.int .i64 k] rfl rfl ?c1 ?c2 ?c3 ?c4 ?c5 ?_)
          case c1 =>
            intro j u hj
            match j, hj with
            | 0, hj => simp at hj; subst hj; simp [Addr.add]
          case c2 => intro u hu; simp at hu; subst hu; rfl
          case c3 => unfold maxLen; omega
          case c4 => omega
          case c5 => simp; omega
          intro v' w3 hown3 hgrow _
          have HB3 := Lib.hid ((HB2.out.alloc (by omega) (.cells #[.int .i64 (k : Int)] 3)).grown hgrow (by simp; omega) (fun q hq => (HO2.out.lt q hq).1))
          have HO3 := Lib.hid (show w3.ownsRow w.heap.size 3 1 v' (pick (byOut node) g.es (k + 1)).length ((pick (byOut node) g.es (k + 1)).map (Value.int .i64)) by rw [HY.out]; simpa using hown3)
          clear hown3 hgrow
          go_wp2_with fail
          go_roundw
          case rel => exact ⟨k + 1, by omega, by go_num, HO3.out, HB3.out⟩
          case measure => simp [intOf]; omega
        | false =>
          have HY := Lib.hid (hno.out hy)
          clear hyes hno
          go_wp2_with fail
          go_roundw
          case rel => exact ⟨k + 1, by omega, by go_num, by rw [HY.out]; exact HO2.out, HB2.out⟩
          case measure => simp [intOf]; omega
      · obtain rfl : k = g.es.length := by omega
        go_wp2_with fail
        go_ret
        obtain ⟨F, h1, h2⟩ := own_of_row HO.out
        exact ⟨_, F, rfl, by rw [HE.out]; exact h1, h2, HB.out⟩
  · have HE := Lib.hid (show edgesOut g node = [] by unfold edgesOut; rw [if_neg hgv])
    go_wp2_with fail
    go_ret
    exact ⟨_, [], rfl, by rw [HE.out]; exact ⟨none, 0, 0, rfl, rfl, Nat.le_refl _, Nat.zero_le _, .inl ⟨rfl, rfl⟩⟩, by simp, HB1.out⟩

set_option maxHeartbeats 400000 in
theorem outEdges_any (g : Gr) (v : Value) (node : Int) (B : Nat) (w : World) (hg : g.At B w v) (hB : B ≤ w.heap.size) (hok : g.Ok) :
    Calls Try.prog 40 #[v, .int .i64 node] w fun e w' => ∃ v' F, e = .returned v' ∧ OwnSl 1 intCells w' v' (edgesOut g node) F ∧ (∀ x ∈ F, w.heap.size ≤ x) ∧ Below w.heap.size w w' := by
  have HG := Lib.hid hg
  obtain ⟨a, b, rfl, ha, hb⟩ := hg
  go_enter Try.func40, Try.ntmps40
  go_wp2_with fail
  have HV := Lib.hid (((Below.refl w.heap.size w).alloc (Nat.le_refl _) (.cells #[a, b] 55)).alloc (by simp) (.cells #[.int .i64 node] 3))
  refine (edgesWhereOut_any g _ node _ B _ (HG.out.below (HV.out.mono hB)) (by simp; omega) hok (by simp [go_sem])).mono ?_
  rintro e w1 ⟨v1, F, rfl, ho, hf, hb1⟩
  have HO := Lib.hid ho
  have HF := Lib.hid hf
  have HB1 := Lib.hid (HV.out.trans (hb1.mono (by simp; omega)))
  clear ho hf hb1
  go_wp2_with fail
  go_ret
  exact ⟨_, F, rfl, HO.out, fun x hx => by have := HF.out x hx; simp at this; omega, HB1.out⟩

def byIn (node : Int) (x : Ed) : Bool := x.t == node
def edgesIn (g : Gr) (node : Int) : List Int := if gv g then pick (byIn node) g.es g.es.length else []

set_option maxHeartbeats 400000 in
theorem fnIn_any (x : Ed) (node : Int) (c : Nat) (w : World) (hc : w.cell? ⟨c, 0, none⟩ = some (.int .i64 node)) :
    Calls Try.prog 91 #[.agg #[.int .i64 x.f, .int .i64 x.t, .string x.l, .int .i64 x.n], .pointer (some ⟨c, 0, none⟩)] w fun e w' => e = .returned (.bool (byIn node x)) ∧ Below w.heap.size w w' := by
  have hlt := World.block_lt_of_cell? w _ hc
  go_enter Try.func91, Try.ntmps91
  go_wp2_with fail
  go_ret
  exact ⟨rfl, (Below.refl _ _).alloc (Nat.le_refl _) _⟩

set_option maxRecDepth 100000 in
set_option maxHeartbeats 1000000 in
theorem edgesWhereIn_any (g : Gr) (v : Value) (node : Int) (c : Nat) (B : Nat) (w : World) (hg : g.At B w v) (hB : B ≤ w.heap.size) (hok : g.Ok) (hc : w.cell? ⟨c, 0, none⟩ = some (.int .i64 node)) :
    Calls Try.prog 89 #[v, .func (.func 91) #[] #[.pointer (some ⟨c, 0, none⟩)]] w fun e w' => ∃ v' F, e = .returned v' ∧ OwnSl 1 intCells w' v' (edgesIn g node) F ∧ (∀ x ∈ F, w.heap.size ≤ x) ∧ Below w.heap.size w w' := by
  have HG := Lib.hid hg
  have hcl : c < w.heap.size := World.block_lt_of_cell? w _ hc
  obtain ⟨a, b, rfl, ha, hb⟩ := hg
  obtain ⟨p, cap, rfl⟩ := hb.form
  have hm := hb.max
  unfold maxLen at hm
  obtain ⟨i0, hi, hz0, hz1, hz2⟩ := info_parts infoInt
  go_enter Try.func89, Try.ntmps89
  go_wp2_with fail
  have HV := Lib.hid ((Below.refl w.heap.size w).alloc (Nat.le_refl _) (.cells #[a, .slice p g.es.length cap] 55))
  refine (graphValid_any g _ B _ (HG.out.below (HV.out.mono hB)) (by simp; omega) hok).mono ?_
  rintro e w1 ⟨rfl, hb1⟩
  have hs1 : w.heap.size < w1.heap.size := by have := hb1.size; simp at this; omega
  have c1 := new_cell hb1 (j := 1) rfl
  have HB1 := Lib.hid (below_past hb1)
  clear hb1
  by_cases hgv : gv g = true
  · have h14 := gv_len hgv
    have HE := Lib.hid (show edgesIn g node = pick (byIn node) g.es g.es.length by unfold edgesIn; rw [if_pos hgv])
    go_wp2_with fail
    clear c1
    go_loopw [5, 14] (fun fnd i wr => ∃ k : Nat, k ≤ g.es.length ∧ i = .int .i64 k ∧ wr.ownsRow w.heap.size 3 1 fnd (pick (byIn node) g.es k).length ((pick (byIn node) g.es k).map (Value.int .i64)) ∧ Below w.heap.size w wr) (fun _ i _ => g.es.length - (intOf i).toNat)
    case atStart => exact ⟨0, Nat.zero_le _, rfl, World.ownsRow_nil _ _ _ _, HB1.out⟩
    case round =>
      obtain ⟨k, hk, rfl, hown, hbw⟩ := hrel
      have hsz := hbw.size
      have HB := Lib.hid hbw
      have HO := Lib.hid hown
      have hpl := pick_le (byIn node) g.es k
      clear hbw hown
      by_cases hlt : k < g.es.length
      · obtain ⟨b, off, rfl, hbb, c0, c1, c2, c3⟩ := (hb.below (HB.out.mono hB)).ed hlt
        have hyes := Lib.hid (fun h => pick_yes (p := byIn node) hlt h)
        have hno := Lib.hid (fun h => pick_no (p := byIn node) hlt h)
        obtain ⟨x, ex⟩ : ∃ x, x = g.es[k] := ⟨_, rfl⟩
        rw [← ex] at c0 c1 c2 c3 hyes hno
        clear ex
        go_wp2_with fail
        refine (fnIn_any x node c _ (keepc (HB.out.alloc hsz _) hcl hc)).mono ?_
        rintro e w2 ⟨rfl, hb2⟩
        have hs2 : wr.heap.size < w2.heap.size := by have := hb2.size; simp at this; omega
        have HO2 := Lib.hid (ownsRow_below (HO.out.alloc _) hb2)
        have HB2 := Lib.hid (HB.out.trans ((below_past hb2).mono hsz))
        clear hb2
        cases hy : byIn node x with
        | true =>
          have HY := Lib.hid (hyes.out hy)
          clear hyes hno
          go_wp2_with (at_builtin; refine wpList_append_own _ rfl _ _ 23 rfl w.heap.size 3 i0 (.int .i64 0) 1 8 Try.underlying23 hi hz0 hz1 hz2 rfl (by decide) _ _ _ rfl (HO2.out.alloc _) ⟨w2.heap.size, 0, none⟩ 1 1 [.int .i64 k] rfl rfl ?c1 ?c2 ?c3 ?c4 ?c5 ?_)
          case c1 =>
            intro j u hj
            match j, hj with
            | 0, hj => simp at hj; subst hj; simp [Addr.add]
          case c2 => intro u hu; simp at hu; subst hu; rfl
          case c3 => unfold maxLen; omega
          case c4 => omega
          case c5 => simp; omega
          intro v' w3 hown3 hgrow _
          have HB3 := Lib.hid ((HB2.out.alloc (by omega) (.cells #[.int .i64 (k : Int)] 3)).grown hgrow (by simp; omega) (fun q hq => (HO2.out.lt q hq).1))
          have HO3 := Lib.hid (show w3.ownsRow w.heap.size 3 1 v' (pick (byIn node) g.es (k + 1)).length ((pick (byIn node) g.es (k + 1)).map (Value.int .i64)) by rw [HY.out]; simpa using hown3)
          clear hown3 hgrow
          go_wp2_with fail
          go_roundw
          case rel => exact ⟨k + 1, by omega, by go_num, HO3.out, HB3.out⟩
          case measure => simp [intOf]; omega
        | false =>
          have HY := Lib.hid (hno.out hy)
          clear hyes hno
          go_wp2_with fail
          go_roundw
          case rel => exact ⟨k + 1, by omega, by go_num, by rw [HY.out]; exact HO2.out, HB2.out⟩
          case measure => simp [intOf]; omega
      · obtain rfl : k = g.es.length := by omega
        go_wp2_with fail
        go_ret
        obtain ⟨F, h1, h2⟩ := own_of_row HO.out
        exact ⟨_, F, rfl, by rw [HE.out]; exact h1, h2, HB.out⟩
  · have HE := Lib.hid (show edgesIn g node = [] by unfold edgesIn; rw [if_neg hgv])
    go_wp2_with fail
    go_ret
    exact ⟨_, [], rfl, by rw [HE.out]; exact ⟨none, 0, 0, rfl, rfl, Nat.le_refl _, Nat.zero_le _, .inl ⟨rfl, rfl⟩⟩, by simp, HB1.out⟩

set_option maxHeartbeats 400000 in
theorem inEdges_any (g : Gr) (v : Value) (node : Int) (B : Nat) (w : World) (hg : g.At B w v) (hB : B ≤ w.heap.size) (hok : g.Ok) :
    Calls Try.prog 41 #[v, .int .i64 node] w fun e w' => ∃ v' F, e = .returned v' ∧ OwnSl 1 intCells w' v' (edgesIn g node) F ∧ (∀ x ∈ F, w.heap.size ≤ x) ∧ Below w.heap.size w w' := by
  have HG := Lib.hid hg
  obtain ⟨a, b, rfl, ha, hb⟩ := hg
  go_enter Try.func41, Try.ntmps41
  go_wp2_with fail
  have HV := Lib.hid (((Below.refl w.heap.size w).alloc (Nat.le_refl _) (.cells #[a, b] 55)).alloc (by simp) (.cells #[.int .i64 node] 3))
  refine (edgesWhereIn_any g _ node _ B _ (HG.out.below (HV.out.mono hB)) (by simp; omega) hok (by simp [go_sem])).mono ?_
  rintro e w1 ⟨v1, F, rfl, ho, hf, hb1⟩
  have HO := Lib.hid ho
  have HF := Lib.hid hf
  have HB1 := Lib.hid (HV.out.trans (hb1.mono (by simp; omega)))
  clear ho hf hb1
  go_wp2_with fail
  go_ret
  exact ⟨_, F, rfl, HO.out, fun x hx => by have := HF.out x hx; simp at this; omega, HB1.out⟩
end Go.Proofs.Ytchhobphockhhaa
