/- Lemmas on the data and the memory of this program's values: several texts in one. -/
import Derived.Test.YtggpnnoldjpmcaaM3q1p1
import Derived.Test.YtggpnnoldjpmcaaM3q0p1
namespace Go.Proofs.Ytggpnnoldjpmcaa
open Go.RowKit

/-- How many of the first k have these ends and as many edges. -/
def fstN (xs : List Mt) (y : Int × Int) (l : Nat) (k : Nat) : Nat := (xs.take k).countP fun x => decide (endP x = y) && decide (lenE x = l)
theorem fstN_zero (xs : List Mt) (y : Int × Int) (l : Nat) : fstN xs y l 0 = 0 := by simp [fstN]
theorem fstN_succ {xs : List Mt} {k : Nat} (hk : k < xs.length) (y : Int × Int) (l : Nat) : fstN xs y l (k + 1) = fstN xs y l k + (if endP xs[k] = y ∧ lenE xs[k] = l then 1 else 0) := by
  unfold fstN; rw [List.take_succ_eq_append_getElem hk, List.countP_append]
  congr 1
  by_cases h1 : endP xs[k] = y <;> by_cases h2 : lenE xs[k] = l <;> simp [h1, h2]
theorem fstN_le (xs : List Mt) (y : Int × Int) (l : Nat) (k : Nat) : fstN xs y l k ≤ k := by
  unfold fstN; refine Nat.le_trans List.countP_le_length ?_; simp; omega
def keepB (way : Int) (xs : List Mt) (k : Nat) (x : Mt) : Bool :=
  if way = 2 then decide (befN xs (endP x) k = 0) else if way = 3 then decide (lesN xs (endP x) (lenE x) = 0) else if way = 4 then decide (lesN xs (endP x) (lenE x) = 0) && decide (fstN xs (endP x) (lenE x) k = 0) else true
def chooseP (way : Int) (xs : List Mt) (k : Nat) : Bool := match xs[k]? with
  | none => false
  | some x => keepB way xs k x
theorem chooseP_at {way : Int} {xs : List Mt} {k : Nat} (hk : k < xs.length) : chooseP way xs k = keepB way xs k xs[k] := by
  unfold chooseP; rw [List.getElem?_eq_getElem hk]
def okC (way : Int) (xs : List Mt) : Bool := xs.all shP && decide (1 ≤ way ∧ way ≤ 4)
def chooseR (way : Int) (xs : List Mt) : List Mt := if okC way xs = true then accR (chooseP way xs) xs xs.length else []
theorem chooseR_small (way : Int) (xs : List Mt) : (chooseR way xs).length + sumMt (chooseR way xs) ≤ xs.length + sumMt xs := by
  unfold chooseR
  split
  · have h := accR_small (chooseP way xs) xs xs.length
    rw [List.take_length] at h; omega
  · simp [sumMt]
theorem accR_congr {p q : Nat → Bool} {xs : List Mt} (h : ∀ k, k < xs.length → p k = q k) : ∀ k, accR p xs k = accR q xs k
  | 0 => rfl
  | k + 1 => by
    rw [accR, accR, accR_congr h k]
    by_cases hk : k < xs.length
    · rw [h k hk]
    · rw [List.getElem?_eq_none (by omega)]
theorem choose_all {xs : List Mt} (hs : xs.all shP = true) : firstR (xs.length : Int) xs = chooseR 1 xs ∧ okF (xs.length : Int) xs = okC 1 xs := by
  have h1 : okF (xs.length : Int) xs = true := by unfold okF; rw [hs]; simp
  have h2 : okC 1 xs = true := by unfold okC; rw [hs]; simp
  refine ⟨?_, by rw [h1, h2]⟩
  unfold firstR chooseR
  rw [if_pos h1, if_pos h2]
  refine accR_congr (fun k hk => ?_) _
  rw [firstP_at hk, chooseP_at hk]
  have := befN_le xs (endP xs[k]) k
  simp [keepB]; omega
theorem choose_any {xs : List Mt} (hs : xs.all shP = true) : firstR 1 xs = chooseR 2 xs ∧ okF 1 xs = okC 2 xs := by
  have h1 : okF 1 xs = true := by unfold okF; rw [hs]; simp
  have h2 : okC 2 xs = true := by unfold okC; rw [hs]; simp
  refine ⟨?_, by rw [h1, h2]⟩
  unfold firstR chooseR
  rw [if_pos h1, if_pos h2]
  refine accR_congr (fun k hk => ?_) _
  rw [firstP_at hk, chooseP_at hk]
  unfold keepB
  rw [if_pos rfl]
  exact decide_eq_decide.2 (by omega)
theorem choose_short {xs : List Mt} (hs : xs.all shP = true) : groupR 1 xs = chooseR 3 xs ∧ okF 1 xs = okC 3 xs := by
  have h1 : okF 1 xs = true := by unfold okF; rw [hs]; simp
  have h2 : okC 3 xs = true := by unfold okC; rw [hs]; simp
  refine ⟨?_, by rw [h1, h2]⟩
  unfold groupR chooseR
  rw [if_pos h1, if_pos h2]
  refine accR_congr (fun k hk => ?_) _
  rw [groupP_at hk, chooseP_at hk]
  unfold keepB
  rw [if_neg (by decide), if_pos rfl]
  exact decide_eq_decide.2 (by omega)
theorem lesN_zero {xs : List Mt} (hs : xs.all shP = true) {Y : Int × Int} {l : Nat} : lesN xs Y l = 0 ↔ ∀ x ∈ xs, endP x = Y → l ≤ lenE x := by
  unfold lesN
  rw [List.length_eq_zero_iff, List.eq_nil_iff_forall_not_mem]
  constructor
  · intro h x hx he
    rcases Nat.lt_or_ge (lenE x) l with hl | hl
    · exact absurd ((lesL_mem hs).2 ⟨hl, x, hx, he, rfl⟩) (h _)
    · exact hl
  · intro h n hn
    obtain ⟨h1, x, hx, h2, rfl⟩ := (lesL_mem hs).1 hn
    have := h x hx h2; omega
theorem grpP_one {xs : List Mt} {x : Mt} : grpP 1 xs x = true ↔ lesN xs (endP x) (lenE x) = 0 := by unfold grpP; rw [decide_eq_true_eq]; omega
theorem take_filter_len {α : Type} (f : α → Bool) (xs : List α) (k : Nat) : (xs.filter f).take ((xs.take k).filter f).length = (xs.take k).filter f := by
  have h : xs.filter f = (xs.take k).filter f ++ (xs.drop k).filter f := by rw [← List.filter_append, List.take_append_drop]
  rw [h, List.take_left]
theorem get_filter_len {α : Type} {f : α → Bool} {xs : List α} {k : Nat} (hk : k < xs.length) (hf : f xs[k] = true) : (xs.filter f)[((xs.take k).filter f).length]? = some xs[k] := by
  have h : xs.filter f = (xs.take k).filter f ++ (xs[k] :: (xs.drop (k + 1)).filter f) := by
    have h0 : xs = xs.take k ++ (xs[k] :: xs.drop (k + 1)) := by rw [← List.drop_eq_getElem_cons hk, List.take_append_drop]
    conv => lhs; rw [h0]
    rw [List.filter_append, List.filter_cons, if_pos hf]
  rw [h, List.getElem?_append_right (Nat.le_refl _), Nat.sub_self]; rfl
theorem one_step {xs : List Mt} (hs : xs.all shP = true) : ∀ k, k ≤ xs.length → accR (firstP 1 (xs.filter (grpP 1 xs))) (xs.filter (grpP 1 xs)) ((xs.take k).filter (grpP 1 xs)).length = accR (chooseP 4 xs) xs k
  | 0, _ => by simp [accR]
  | k + 1, hk => by
    have hlt : k < xs.length := by omega
    have ih := one_step hs k (by omega)
    have hxm := List.getElem_mem hlt
    cases hf : grpP 1 xs xs[k] with
    | false =>
      have hc : chooseP 4 xs k = false := by
        rw [chooseP_at hlt]
        unfold keepB
        rw [if_neg (by decide), if_neg (by decide), if_pos rfl, Bool.and_eq_false_iff]
        left
        refine decide_eq_false fun h => ?_
        rw [grpP_one.2 h] at hf; cases hf
      rw [filter_no hlt hf, ih, accR_no hlt hc]
    | true =>
      have h0 := grpP_one.1 hf
      have hmin := (lesN_zero hs).1 h0
      have hg := get_filter_len (f := grpP 1 xs) hlt hf
      have ht := take_filter_len (grpP 1 xs) xs k
      rw [filter_yes hlt hf, List.length_append, List.length_singleton]
      obtain ⟨c, ec⟩ : ∃ c, c = ((xs.take k).filter (grpP 1 xs)).length := ⟨_, rfl⟩
      rw [← ec] at ih hg ht ⊢
      obtain ⟨ys, ey⟩ : ∃ ys, ys = xs.filter (grpP 1 xs) := ⟨_, rfl⟩
      rw [← ey] at ih hg ht ⊢
      obtain ⟨hcl, hgc⟩ := List.getElem?_eq_some_iff.1 hg
      have hb : firstP 1 ys c = chooseP 4 xs k := by
        rw [firstP_at hcl, chooseP_at hlt, hgc]
        unfold keepB
        rw [if_neg (by decide), if_neg (by decide), if_pos rfl, decide_eq_true h0, Bool.true_and]
        refine decide_eq_decide.2 ?_
        unfold befN fstN
        rw [ht]
        have e1 : (((List.count (endP xs[k]) (((xs.take k).filter (grpP 1 xs)).map endP) : Nat) : Int) < 1) ↔ List.count (endP xs[k]) (((xs.take k).filter (grpP 1 xs)).map endP) = 0 := by omega
        rw [e1, List.count_eq_zero, List.countP_eq_zero]
        constructor
        · intro h x hx hc
          simp only [Bool.and_eq_true, decide_eq_true_eq] at hc
          refine h (List.mem_map.2 ⟨x, List.mem_filter.2 ⟨hx, grpP_one.2 ?_⟩, hc.1⟩)
          rw [hc.1, hc.2]; exact h0
        · intro h hm
          obtain ⟨x, hx, he⟩ := List.mem_map.1 hm
          obtain ⟨hx1, hx2⟩ := List.mem_filter.1 hx
          have h2 := (lesN_zero hs).1 (grpP_one.1 hx2)
          have l1 := hmin x (List.mem_of_mem_take hx1) he
          have l2 := h2 _ hxm he.symm
          refine h x hx1 ?_
          simp only [Bool.and_eq_true, decide_eq_true_eq]
          exact ⟨he, by omega⟩
      cases hc : chooseP 4 xs k with
      | true => rw [accR_yes hlt hc, accR_yes hcl (hb.trans hc), ih, hgc]
      | false => rw [accR_no hlt hc, accR_no hcl (hb.trans hc), ih]
theorem choose_one {xs : List Mt} (hs : xs.all shP = true) : firstR 1 (groupR 1 xs) = chooseR 4 xs ∧ okF 1 (groupR 1 xs) = okC 4 xs := by
  have h1 : okF 1 xs = true := by unfold okF; rw [hs]; simp
  have h2 : okC 4 xs = true := by unfold okC; rw [hs]; simp
  rw [groupR_filter h1]
  have h3 : (xs.filter (grpP 1 xs)).all shP = true := List.all_eq_true.2 fun x hx => List.all_eq_true.1 hs x (List.mem_filter.1 hx).1
  have h4 : okF 1 (xs.filter (grpP 1 xs)) = true := by unfold okF; rw [h3]; simp
  refine ⟨?_, by rw [h4, h2]⟩
  unfold firstR chooseR
  rw [if_pos h4, if_pos h2]
  have h := one_step hs xs.length (Nat.le_refl _)
  rw [List.take_length] at h
  exact h
end Go.Proofs.Ytggpnnoldjpmcaa
namespace Go.Proofs.Ytggpnnoldjpmcaa
open Go.RowKit

set_option maxRecDepth 100000 in
set_option maxHeartbeats 4000000 in
theorem firstFn_any (m : Mt) (v : Value) (n : Int) (c1 c2 b : Nat) (S : List (Int × Int)) (B : Nat) (w : World) (hm : m.w.At B w v) (hB : B ≤ w.heap.size) (hs : shP m = true) (hok : Pairs64 (endP m)) (hc1 : w.cell? ⟨c1, 0, none⟩ = some (.map (some b))) (hc2 : w.cell? ⟨c2, 0, none⟩ = some (.int .i64 n))
    (h1b : c1 ≠ b) (h2b : c2 ≠ b) (hBb : B ≤ b) (hM : IMap w b S (cntV S)) (hS : S.length ≤ 1048576) :
    Calls Try.prog 106 #[v, .pointer (some ⟨c1, 0, none⟩), .pointer (some ⟨c2, 0, none⟩)] w fun en w' => en = .returned (.bool (decide ((S.count (endP m) : Int) + 1 ≤ n))) ∧ IMap w' b (endP m :: S) (cntV (endP m :: S)) ∧ Chg [b] w w' := by
  have hl1 := World.block_lt_of_cell? w _ hc1
  have hl2 := World.block_lt_of_cell? w _ hc2
  have hbl := hM.lt
  have HMA := Lib.hid hm
  obtain ⟨a1, a2, rfl, ha, hb⟩ := hm
  obtain ⟨q, d, rfl⟩ := ha.form
  obtain ⟨q', d', rfl⟩ := hb.form
  have HT := Lib.hid (show Try.prog.underlying 118 = some (.map 113 3) from Try.underlying118)
  have HZ := Lib.hid (show ∀ w, (zeroValue 3).run Try.prog w = .ok (.int .i64 0) w from fun w => by kernel_rfl)
  obtain ⟨W, eW⟩ : ∃ W, W = w.alloc (.cells #[.slice q m.w.ns.length d, .slice q' m.w.es.length d'] 50) := ⟨_, rfl⟩
  have kW := Lib.hid (show Below w.heap.size w W by rw [eW]; exact (Below.refl _ _).alloc (Nat.le_refl _) _)
  have sW : w.heap.size < W.heap.size := by rw [eW]; simp
  have HKC := Lib.hid (fun (E : World) (hE : Chg [b] W E) => (⟨⟨hE.cellOf (by simp; omega) (by rw [eW]; simp [go_sem]), hE.cellOf (by simp; omega) (by rw [eW]; simp [go_sem])⟩, hE.cellOf (by simp; omega) (keepc kW.out hl1 hc1), hE.cellOf (by simp; omega) (keepc kW.out hl2 hc2)⟩ : (E.cell? ⟨w.heap.size, 0, none⟩ = some (.slice q m.w.ns.length d) ∧ E.cell? ⟨w.heap.size, 1, none⟩ = some (.slice q' m.w.es.length d')) ∧ E.cell? ⟨c1, 0, none⟩ = some (.map (some b)) ∧ E.cell? ⟨c2, 0, none⟩ = some (.int .i64 n)))
  have HIW := Lib.hid (hM.chg (G := []) (Chg.of_below kW.out []) (by simp))
  obtain ⟨Y, eY⟩ : ∃ Y, Y = endP m := ⟨_, rfl⟩
  have CE := Lib.hid (fun (E : World) (hE : Chg [b] W E) => (by rw [eY]; exact endsOf_any m (.agg #[.slice q m.w.ns.length d, .slice q' m.w.es.length d']) B E (HMA.out.to ((kW.out.mono hB).trans (hE.below (by omega) (by simp; exact hBb))) (Nat.le_refl _)) (by have := hE.size; omega) hs : Calls Try.prog 79 #[.agg #[.slice q m.w.ns.length d, .slice q' m.w.es.length d']] E (fun en w' => en = .returned (endV Y) ∧ Below E.heap.size E w')))
  rw [← eY] at hok ⊢
  have HP := Lib.hid hok
  have hcnt : S.count Y ≤ 1048576 := Nat.le_trans List.count_le_length hS
  have EW := Lib.hid eW
  have r0 : Chg [b] W W := Chg.refl _ _
  clear eW hc1 hc2 hM ha hb hs hok eY hS
  go_enter Try.func106, Try.ntmps106
  go_upto_region 1 with fail
  rw [← EW.out]
  refine wp_region_held_drew (S := fun w' => (w'.cell? ⟨w.heap.size, 0, none⟩ = some (.slice q m.w.ns.length d) ∧ w'.cell? ⟨w.heap.size, 1, none⟩ = some (.slice q' m.w.es.length d')) ∧ w'.cell? ⟨c1, 0, none⟩ = some (.map (some b)) ∧ w'.cell? ⟨c2, 0, none⟩ = some (.int .i64 n)) (by kernel_rfl) ?_ (fun hHeld => ?_)
  · exact HKC.out _ (show Chg [b] W _ by ((repeat (first | with_reducible assumption | with_reducible exact Chg.refl _ _ | refine Chg.alloc ?_ _ | refine Chg.drew ?_)); first | done | fail "chb"))
  (refine takeL (i := 0) (v := ?_) rfl (by kernel_rfl) (by kernel_rfl) (by kernel_rfl) (fun _ _ _ h => h) (Or.inl ⟨by kernel_rfl, ?_⟩) (by assumption) ?_; rotate_left; (focus (intro w hSw; (try dsimp only at hSw); go_simp; first | done | with_reducible rfl | fail "take")); (try simp only [Act.put, List.setIfInBounds_toArray, List.set_cons_zero, List.set_cons_succ]))
  (refine takeL (i := 1) (v := ?_) rfl (by kernel_rfl) (by kernel_rfl) (by kernel_rfl) (fun _ _ _ h => h) (Or.inl ⟨by kernel_rfl, ?_⟩) (by assumption) ?_; rotate_left; (focus (intro w hSw; (try dsimp only at hSw); go_simp; first | done | with_reducible rfl | fail "take")); (try simp only [Act.put, List.setIfInBounds_toArray, List.set_cons_zero, List.set_cons_succ]))
  (refine callL (i := 2) rfl (by kernel_rfl) (by kernel_rfl) (fun K hK => ?_); go_simp)
  go_at_call 79
  refine Calls.mono (CE.out _ (show Chg [b] W _ by ((repeat (first | with_reducible assumption | with_reducible exact Chg.refl _ _ | refine Chg.alloc ?_ _ | refine Chg.drew ?_)); first | done | fail "chb"))) ?_
  rintro en wa ⟨rfl, hb⟩
  have kwa : Chg [b] W wa := (show Chg [b] W _ by ((repeat (first | with_reducible assumption | with_reducible exact Chg.refl _ _ | refine Chg.alloc ?_ _ | refine Chg.drew ?_)); first | done | fail "chb")).trans (Chg.of_below hb [b])
  have HIa := Lib.hid (HIW.out.chg (G := []) ((Chg.drew (Chg.refl [] W)).trans (Chg.of_below hb [])) (by simp))
  clear hb
  go_wp2_with fail
  refine hK.out _ _ (HKC.out _ (show Chg [b] W _ by ((repeat (first | with_reducible assumption | with_reducible exact Chg.refl _ _ | refine Chg.alloc ?_ _ | refine Chg.drew ?_)); first | done | fail "chb"))) (fun hHeld => ?_)
  clear hK K
  (try simp only [Act.put, List.setIfInBounds_toArray, List.set_cons_zero, List.set_cons_succ])
  refine twoL (i := 3) (j := 5) rfl rfl (by kernel_rfl) (by kernel_rfl) (by kernel_rfl) (fun K hK => ?_) (fun K hK => ?_)
  · refine opwp_lookup rfl rfl rfl ((by have h := run_lookupI HT.out HZ.out HIa.out HP.out; rw [atM_cnt] at h; exact h)) ?_
    refine hK.out _ _ (HKC.out _ (show Chg [b] W _ by ((repeat (first | with_reducible assumption | with_reducible exact Chg.refl _ _ | refine Chg.alloc ?_ _ | refine Chg.drew ?_)); first | done | fail "chb"))) (fun hHeld => ?_)
    clear hK K
    (try simp only [Act.put, List.setIfInBounds_toArray, List.set_cons_zero, List.set_cons_succ])
    (refine takeL (i := 4) (v := ?_) rfl (by kernel_rfl) (by kernel_rfl) (by kernel_rfl) (fun _ _ _ h => h) (Or.inl ⟨by kernel_rfl, ?_⟩) (by assumption) ?_; rotate_left; (focus (intro w hSw; (try dsimp only at hSw); go_simp; first | done | with_reducible rfl | fail "take")); (try simp only [Act.put, List.setIfInBounds_toArray, List.set_cons_zero, List.set_cons_succ]))
    refine callL (i := 5) rfl (by kernel_rfl) (by kernel_rfl) (fun K hK => ?_)
    obtain ⟨st, w2, hrun, hI, hBn, hcg⟩ := run_entryI HT.out HZ.out (HIa.out) HP.out
    have kw2 : Chg [b] W w2 := (show Chg [b] W _ by ((repeat (first | with_reducible assumption | with_reducible exact Chg.refl _ _ | refine Chg.alloc ?_ _ | refine Chg.drew ?_)); first | done | fail "chb")).trans hcg
    have HI := Lib.hid hI
    have HBN := Lib.hid hBn
    refine opwp_entry rfl rfl rfl hrun ?_
    clear hrun hI hBn hcg
    refine hK.out _ _ (HKC.out _ (show Chg [b] W _ by ((repeat (first | with_reducible assumption | with_reducible exact Chg.refl _ _ | refine Chg.alloc ?_ _ | refine Chg.drew ?_)); first | done | fail "chb"))) (fun hHeld => ?_)
    clear hK K
    (try simp only [Act.put, List.setIfInBounds_toArray, List.set_cons_zero, List.set_cons_succ])
    (refine takeL (i := 6) (v := ?_) rfl (by kernel_rfl) (by kernel_rfl) (by kernel_rfl) (fun _ _ _ h => h) (Or.inl ⟨by kernel_rfl, ?_⟩) (by assumption) ?_; rotate_left; (focus (intro w hSw; (try dsimp only at hSw); go_simp; first | done | with_reducible rfl | fail "take")); (try simp only [Act.put, List.setIfInBounds_toArray, List.set_cons_zero, List.set_cons_succ]))
    refine callL (i := 7) rfl (by kernel_rfl) (by kernel_rfl) (fun K hK => ?_)
    obtain ⟨w3, hrun, hI, hcg⟩ := run_estoreI (t := 118) HI.out HBN.out (.int .i64 ((S.count Y : Int) + 1))
    have kw3 : Chg [b] W w3 := (show Chg [b] W _ by ((repeat (first | with_reducible assumption | with_reducible exact Chg.refl _ _ | refine Chg.alloc ?_ _ | refine Chg.drew ?_)); first | done | fail "chb")).trans hcg
    have HI2 := Lib.hid (show IMap w3 b (Y :: S) (cntV (Y :: S)) by have h := hI; rw [atM_cnt, cnt_upd] at h; exact h)
    refine opwp_estore rfl rfl rfl (by (first | exact congrArg (Value.int .i64) (IntWalk.i64_in _ (by omega)) | fail "val")) hrun ?_
    clear hrun hI hcg
    refine hK.out _ _ (HKC.out _ (show Chg [b] W _ by ((repeat (first | with_reducible assumption | with_reducible exact Chg.refl _ _ | refine Chg.alloc ?_ _ | refine Chg.drew ?_)); first | done | fail "chb"))) (fun hHeld => ?_)
    clear hK K
    simp only [Act.put]
    refine wpAnyH_done (by kernel_rfl) ?_ _
    go_wp2_with fail
    refine wp_region_held_drew (S := fun w' => (w'.cell? ⟨w.heap.size, 0, none⟩ = some (.slice q m.w.ns.length d) ∧ w'.cell? ⟨w.heap.size, 1, none⟩ = some (.slice q' m.w.es.length d')) ∧ w'.cell? ⟨c1, 0, none⟩ = some (.map (some b)) ∧ w'.cell? ⟨c2, 0, none⟩ = some (.int .i64 n)) (by kernel_rfl) ?_ (fun hHeld => ?_)
    · exact HKC.out _ (show Chg [b] W _ by ((repeat (first | with_reducible assumption | with_reducible exact Chg.refl _ _ | refine Chg.alloc ?_ _ | refine Chg.drew ?_)); first | done | fail "chb"))
    have k6 := HI2.out.chg (G := []) (Chg.drew (Chg.refl [] w3)) (by simp)
    (refine takeL (i := 0) (v := ?_) rfl (by kernel_rfl) (by kernel_rfl) (by kernel_rfl) (fun _ _ _ h => h) (Or.inl ⟨by kernel_rfl, ?_⟩) (by assumption) ?_; rotate_left; (focus (intro w hSw; (try dsimp only at hSw); go_simp; first | done | with_reducible rfl | fail "take")); (try simp only [Act.put, List.setIfInBounds_toArray, List.set_cons_zero, List.set_cons_succ]))
    (refine takeL (i := 1) (v := ?_) rfl (by kernel_rfl) (by kernel_rfl) (by kernel_rfl) (fun _ _ _ h => h) (Or.inl ⟨by kernel_rfl, ?_⟩) (by assumption) ?_; rotate_left; (focus (intro w hSw; (try dsimp only at hSw); go_simp; first | done | with_reducible rfl | fail "take")); (try simp only [Act.put, List.setIfInBounds_toArray, List.set_cons_zero, List.set_cons_succ]))
    (refine takeL (i := 4) (v := ?_) rfl (by kernel_rfl) (by kernel_rfl) (by kernel_rfl) (fun _ _ _ h => h) (Or.inl ⟨by kernel_rfl, ?_⟩) (by assumption) ?_; rotate_left; (focus (intro w hSw; (try dsimp only at hSw); go_simp; first | done | with_reducible rfl | fail "take")); (try simp only [Act.put, List.setIfInBounds_toArray, List.set_cons_zero, List.set_cons_succ]))
    (refine callL (i := 2) rfl (by kernel_rfl) (by kernel_rfl) (fun K hK => ?_); go_simp)
    go_at_call 79
    refine Calls.mono (CE.out _ (show Chg [b] W _ by ((repeat (first | with_reducible assumption | with_reducible exact Chg.refl _ _ | refine Chg.alloc ?_ _ | refine Chg.drew ?_)); first | done | fail "chb"))) ?_
    rintro en wb ⟨rfl, hb⟩
    have kwb : Chg [b] W wb := (show Chg [b] W _ by ((repeat (first | with_reducible assumption | with_reducible exact Chg.refl _ _ | refine Chg.alloc ?_ _ | refine Chg.drew ?_)); first | done | fail "chb")).trans (Chg.of_below hb [b])
    have HI3 := Lib.hid (HI2.out.chg (G := []) ((Chg.drew (Chg.refl [] w3)).trans (Chg.of_below hb [])) (by simp))
    clear hb
    go_wp2_with fail
    refine hK.out _ _ (HKC.out _ (show Chg [b] W _ by ((repeat (first | with_reducible assumption | with_reducible exact Chg.refl _ _ | refine Chg.alloc ?_ _ | refine Chg.drew ?_)); first | done | fail "chb"))) (fun hHeld => ?_)
    clear hK K
    (try simp only [Act.put, List.setIfInBounds_toArray, List.set_cons_zero, List.set_cons_succ])
    refine callL (i := 3) rfl (by kernel_rfl) (by kernel_rfl) (fun K hK => ?_)
    refine opwp_lookup rfl rfl rfl ((by have h := run_lookupI HT.out HZ.out HI3.out HP.out; rw [atM_cnt] at h; exact h)) ?_
    refine hK.out _ _ (HKC.out _ (show Chg [b] W _ by ((repeat (first | with_reducible assumption | with_reducible exact Chg.refl _ _ | refine Chg.alloc ?_ _ | refine Chg.drew ?_)); first | done | fail "chb"))) (fun hHeld => ?_)
    clear hK K
    (try simp only [Act.put, List.setIfInBounds_toArray, List.set_cons_zero, List.set_cons_succ])
    (refine takeL (i := 5) (v := ?_) rfl (by kernel_rfl) (by kernel_rfl) (by kernel_rfl) (fun _ _ _ h => h) (Or.inl ⟨by kernel_rfl, ?_⟩) (by assumption) ?_; rotate_left; (focus (intro w hSw; (try dsimp only at hSw); go_simp; first | done | with_reducible rfl | fail "take")); (try simp only [Act.put, List.setIfInBounds_toArray, List.set_cons_zero, List.set_cons_succ]))
    (refine takeL (i := 6) (v := ?_) rfl (by kernel_rfl) (by kernel_rfl) (by kernel_rfl) (fun _ _ _ h => h) (Or.inl ⟨by kernel_rfl, ?_⟩) (by assumption) ?_; rotate_left; (focus (intro w hSw; (try dsimp only at hSw); go_simp; first | done | with_reducible rfl | fail "take")); (try simp only [Act.put, List.setIfInBounds_toArray, List.set_cons_zero, List.set_cons_succ]))
    refine wpAnyH_done (by kernel_rfl) ?_ _
    have hcc : (List.count Y (Y :: S) : Int) = (S.count Y : Int) + 1 := by simp
    go_wp2_with fail
    go_ret
    exact ⟨ret_bool rfl, HI3.out, (Chg.of_below kW.out [b]).trans kwb⟩
  · obtain ⟨st, w2, hrun, hI, hBn, hcg⟩ := run_entryI HT.out HZ.out (HIa.out) HP.out
    have kw2 : Chg [b] W w2 := (show Chg [b] W _ by ((repeat (first | with_reducible assumption | with_reducible exact Chg.refl _ _ | refine Chg.alloc ?_ _ | refine Chg.drew ?_)); first | done | fail "chb")).trans hcg
    have HI := Lib.hid hI
    have HBN := Lib.hid hBn
    refine opwp_entry rfl rfl rfl hrun ?_
    clear hrun hI hBn hcg
    refine hK.out _ _ (HKC.out _ (show Chg [b] W _ by ((repeat (first | with_reducible assumption | with_reducible exact Chg.refl _ _ | refine Chg.alloc ?_ _ | refine Chg.drew ?_)); first | done | fail "chb"))) (fun hHeld => ?_)
    clear hK K
    (try simp only [Act.put, List.setIfInBounds_toArray, List.set_cons_zero, List.set_cons_succ])
    (refine takeL (i := 6) (v := ?_) rfl (by kernel_rfl) (by kernel_rfl) (by kernel_rfl) (fun _ _ _ h => h) (Or.inl ⟨by kernel_rfl, ?_⟩) (by assumption) ?_; rotate_left; (focus (intro w hSw; (try dsimp only at hSw); go_simp; first | done | with_reducible rfl | fail "take")); (try simp only [Act.put, List.setIfInBounds_toArray, List.set_cons_zero, List.set_cons_succ]))
    refine callL (i := 3) rfl (by kernel_rfl) (by kernel_rfl) (fun K hK => ?_)
    refine opwp_lookup rfl rfl rfl ((by have h := run_lookupI HT.out HZ.out HI.out HP.out; rw [atM_upd, atM_cnt] at h; exact h)) ?_
    refine hK.out _ _ (HKC.out _ (show Chg [b] W _ by ((repeat (first | with_reducible assumption | with_reducible exact Chg.refl _ _ | refine Chg.alloc ?_ _ | refine Chg.drew ?_)); first | done | fail "chb"))) (fun hHeld => ?_)
    clear hK K
    (try simp only [Act.put, List.setIfInBounds_toArray, List.set_cons_zero, List.set_cons_succ])
    (refine takeL (i := 4) (v := ?_) rfl (by kernel_rfl) (by kernel_rfl) (by kernel_rfl) (fun _ _ _ h => h) (Or.inl ⟨by kernel_rfl, ?_⟩) (by assumption) ?_; rotate_left; (focus (intro w hSw; (try dsimp only at hSw); go_simp; first | done | with_reducible rfl | fail "take")); (try simp only [Act.put, List.setIfInBounds_toArray, List.set_cons_zero, List.set_cons_succ]))
    refine callL (i := 7) rfl (by kernel_rfl) (by kernel_rfl) (fun K hK => ?_)
    obtain ⟨w3, hrun, hI, hcg⟩ := run_estoreI (t := 118) HI.out HBN.out (.int .i64 ((S.count Y : Int) + 1))
    have kw3 : Chg [b] W w3 := (show Chg [b] W _ by ((repeat (first | with_reducible assumption | with_reducible exact Chg.refl _ _ | refine Chg.alloc ?_ _ | refine Chg.drew ?_)); first | done | fail "chb")).trans hcg
    have HI2 := Lib.hid (show IMap w3 b (Y :: S) (cntV (Y :: S)) by have h := hI; rw [atM_cnt, cnt_upd] at h; exact h)
    refine opwp_estore rfl rfl rfl (by (first | exact congrArg (Value.int .i64) (IntWalk.i64_in _ (by omega)) | fail "val")) hrun ?_
    clear hrun hI hcg
    refine hK.out _ _ (HKC.out _ (show Chg [b] W _ by ((repeat (first | with_reducible assumption | with_reducible exact Chg.refl _ _ | refine Chg.alloc ?_ _ | refine Chg.drew ?_)); first | done | fail "chb"))) (fun hHeld => ?_)
    clear hK K
    simp only [Act.put]
    refine wpAnyH_done (by kernel_rfl) ?_ _
    go_wp2_with fail
    refine wp_region_held_drew (S := fun w' => (w'.cell? ⟨w.heap.size, 0, none⟩ = some (.slice q m.w.ns.length d) ∧ w'.cell? ⟨w.heap.size, 1, none⟩ = some (.slice q' m.w.es.length d')) ∧ w'.cell? ⟨c1, 0, none⟩ = some (.map (some b)) ∧ w'.cell? ⟨c2, 0, none⟩ = some (.int .i64 n)) (by kernel_rfl) ?_ (fun hHeld => ?_)
    · exact HKC.out _ (show Chg [b] W _ by ((repeat (first | with_reducible assumption | with_reducible exact Chg.refl _ _ | refine Chg.alloc ?_ _ | refine Chg.drew ?_)); first | done | fail "chb"))
    have k6 := HI2.out.chg (G := []) (Chg.drew (Chg.refl [] w3)) (by simp)
    (refine takeL (i := 0) (v := ?_) rfl (by kernel_rfl) (by kernel_rfl) (by kernel_rfl) (fun _ _ _ h => h) (Or.inl ⟨by kernel_rfl, ?_⟩) (by assumption) ?_; rotate_left; (focus (intro w hSw; (try dsimp only at hSw); go_simp; first | done | with_reducible rfl | fail "take")); (try simp only [Act.put, List.setIfInBounds_toArray, List.set_cons_zero, List.set_cons_succ]))
    (refine takeL (i := 1) (v := ?_) rfl (by kernel_rfl) (by kernel_rfl) (by kernel_rfl) (fun _ _ _ h => h) (Or.inl ⟨by kernel_rfl, ?_⟩) (by assumption) ?_; rotate_left; (focus (intro w hSw; (try dsimp only at hSw); go_simp; first | done | with_reducible rfl | fail "take")); (try simp only [Act.put, List.setIfInBounds_toArray, List.set_cons_zero, List.set_cons_succ]))
    (refine takeL (i := 4) (v := ?_) rfl (by kernel_rfl) (by kernel_rfl) (by kernel_rfl) (fun _ _ _ h => h) (Or.inl ⟨by kernel_rfl, ?_⟩) (by assumption) ?_; rotate_left; (focus (intro w hSw; (try dsimp only at hSw); go_simp; first | done | with_reducible rfl | fail "take")); (try simp only [Act.put, List.setIfInBounds_toArray, List.set_cons_zero, List.set_cons_succ]))
    (refine callL (i := 2) rfl (by kernel_rfl) (by kernel_rfl) (fun K hK => ?_); go_simp)
    go_at_call 79
    refine Calls.mono (CE.out _ (show Chg [b] W _ by ((repeat (first | with_reducible assumption | with_reducible exact Chg.refl _ _ | refine Chg.alloc ?_ _ | refine Chg.drew ?_)); first | done | fail "chb"))) ?_
    rintro en wb ⟨rfl, hb⟩
    have kwb : Chg [b] W wb := (show Chg [b] W _ by ((repeat (first | with_reducible assumption | with_reducible exact Chg.refl _ _ | refine Chg.alloc ?_ _ | refine Chg.drew ?_)); first | done | fail "chb")).trans (Chg.of_below hb [b])
    have HI3 := Lib.hid (HI2.out.chg (G := []) ((Chg.drew (Chg.refl [] w3)).trans (Chg.of_below hb [])) (by simp))
    clear hb
    go_wp2_with fail
    refine hK.out _ _ (HKC.out _ (show Chg [b] W _ by ((repeat (first | with_reducible assumption | with_reducible exact Chg.refl _ _ | refine Chg.alloc ?_ _ | refine Chg.drew ?_)); first | done | fail "chb"))) (fun hHeld => ?_)
    clear hK K
    (try simp only [Act.put, List.setIfInBounds_toArray, List.set_cons_zero, List.set_cons_succ])
    refine callL (i := 3) rfl (by kernel_rfl) (by kernel_rfl) (fun K hK => ?_)
    refine opwp_lookup rfl rfl rfl ((by have h := run_lookupI HT.out HZ.out HI3.out HP.out; rw [atM_cnt] at h; exact h)) ?_
    refine hK.out _ _ (HKC.out _ (show Chg [b] W _ by ((repeat (first | with_reducible assumption | with_reducible exact Chg.refl _ _ | refine Chg.alloc ?_ _ | refine Chg.drew ?_)); first | done | fail "chb"))) (fun hHeld => ?_)
    clear hK K
    (try simp only [Act.put, List.setIfInBounds_toArray, List.set_cons_zero, List.set_cons_succ])
    (refine takeL (i := 5) (v := ?_) rfl (by kernel_rfl) (by kernel_rfl) (by kernel_rfl) (fun _ _ _ h => h) (Or.inl ⟨by kernel_rfl, ?_⟩) (by assumption) ?_; rotate_left; (focus (intro w hSw; (try dsimp only at hSw); go_simp; first | done | with_reducible rfl | fail "take")); (try simp only [Act.put, List.setIfInBounds_toArray, List.set_cons_zero, List.set_cons_succ]))
    (refine takeL (i := 6) (v := ?_) rfl (by kernel_rfl) (by kernel_rfl) (by kernel_rfl) (fun _ _ _ h => h) (Or.inl ⟨by kernel_rfl, ?_⟩) (by assumption) ?_; rotate_left; (focus (intro w hSw; (try dsimp only at hSw); go_simp; first | done | with_reducible rfl | fail "take")); (try simp only [Act.put, List.setIfInBounds_toArray, List.set_cons_zero, List.set_cons_succ]))
    refine wpAnyH_done (by kernel_rfl) ?_ _
    have hcc : (List.count Y (Y :: S) : Int) = (S.count Y : Int) + 1 := by simp
    go_wp2_with fail
    go_ret
    exact ⟨ret_bool rfl, HI3.out, (Chg.of_below kW.out [b]).trans kwb⟩
end Go.Proofs.Ytggpnnoldjpmcaa
namespace Go.Proofs.Ytggpnnoldjpmcaa
open Go.RowKit

theorem endP_ok {m : Mt} (h : m.Ok) (hp : 0 < m.w.ns.length) : Pairs64 (endP m) := by
  rw [endP_at hp]
  exact ⟨h.1.1 _ (List.getElem_mem _), h.1.1 _ (List.getElem_mem _)⟩
theorem chg_app {w w1 E E' : World} {F : List Nat} {b : Nat} (hc : Chg [b] w w1) (hE : Below w1.heap.size w1 E) (h3 : Chg F E E') (hF : ∀ y ∈ F, w.heap.size ≤ y) : Chg [b] w E' :=
  (hc.trans (Chg.of_below hE [b])).past h3 (fun y hy => .inr (hF y hy))
theorem imap_app {w1 E E' : World} {F : List Nat} {b : Nat} {S : List (Int × Int)} {g : Int × Int → Value} (h : IMap w1 b S g) (hE : Below w1.heap.size w1 E) (h3 : Chg F E E') (hb : b ∉ F) : IMap E' b S g :=
  (h.chg (G := []) (Chg.of_below hE []) (by simp)).chg h3 hb

set_option maxRecDepth 100000 in
set_option maxHeartbeats 4000000 in
theorem pickFirst_any (xs : List Mt) (v : Value) (n : Int) (a1 a2 b0 : Nat) (B : Nat) (w : World) (hv : kMt.Rd B w v xs) (hB : B ≤ w.heap.size) (hn : xs.length + sumMt xs ≤ 1048576) (hsh : xs.all shP = true) (hok : ∀ x ∈ xs, x.Ok) (hc1 : w.cell? ⟨a1, 0, none⟩ = some (.map (some b0))) (hc2 : w.cell? ⟨a2, 0, none⟩ = some (.int .i64 n)) (h1b : a1 ≠ b0) (h2b : a2 ≠ b0) (hBb : B ≤ b0) (hM : IMap w b0 [] (cntV [])) :
    Calls Try.prog 80 #[v, .func (.func 106) #[] #[.pointer (some ⟨a1, 0, none⟩), .pointer (some ⟨a2, 0, none⟩)]] w fun e w' => ∃ v' F, e = .returned v' ∧ kMt.Ow w' v' (accR (firstP n xs) xs xs.length) F ∧ (∀ y ∈ F, w.heap.size ≤ y) ∧ Chg [b0] w w' := by
  obtain ⟨p, cap, rfl⟩ := hv.form
  obtain ⟨_, hm1, hm2⟩ := hv.max
  unfold maxLen at hm2
  have HV := Lib.hid hv
  have HSH := Lib.hid (List.all_eq_true.1 hsh)
  have hcl1 := World.block_lt_of_cell? w _ hc1
  have hcl2 := World.block_lt_of_cell? w _ hc2
  have hbl := hM.lt
  have HC1 := Lib.hid (fun (E : World) (hE : Chg [b0] w E) => (⟨hE.cellOf (by simp; omega) hc1, hE.cellOf (by simp; omega) hc2⟩ : E.cell? ⟨a1, 0, none⟩ = some (.map (some b0)) ∧ E.cell? ⟨a2, 0, none⟩ = some (.int .i64 n)))
  have HBE := Lib.hid (fun (E : World) (hE : Chg [b0] w E) => hE.below (B := B) hB (by simp; exact hBb))
  have HOK := Lib.hid hok
  clear hc1 hc2 hok
  clear hv hsh
  go_enter Try.func80, Try.ntmps80
  go_wp2_with fail
  go_loopw [5, 10] (fun cp i wr => ∃ (k : Nat) (F : List Nat), k ≤ xs.length ∧ i = .int .i64 k ∧ RowKit.Hid (kMt.OwB 52 wr cp (accR (firstP n xs) xs k) F) ∧ RowKit.Hid (∀ y ∈ F, w.heap.size ≤ y) ∧ RowKit.Hid (IMap wr b0 ((xs.take k).map endP).reverse (cntV ((xs.take k).map endP).reverse)) ∧ RowKit.Hid (Chg [b0] w wr)) (fun _ i _ => xs.length - (intOf i).toNat)
  case atStart => exact ⟨0, [], Nat.zero_le _, rfl, Lib.hid (Kd.OwB.nil kMt _ _ _), Lib.hid (by simp), Lib.hid (by simpa using hM), Lib.hid (Chg.refl _ _)⟩
  case round =>
    obtain ⟨k, F, hk, rfl, HO, HF, HMP, HB⟩ := hrel
    have hsz := HB.out.size
    by_cases hlt : k < xs.length
    · obtain ⟨b, off, q, d, q', d', r, e, rfl, hb, c0, c1, c2, hin⟩ := kMt_get (HV.out.to (HBE.out _ HB.out) (Nat.le_refl _)) hlt
      have hsize := sumMt_get xs k hlt
      have hsx := HSH.out _ (List.getElem_mem hlt)
      have hp := firstP_at (n := n) hlt
      have hokx := HOK.out _ (List.getElem_mem hlt)
      have hS1 : endP xs[k] :: ((xs.take k).map endP).reverse = ((xs.take (k + 1)).map endP).reverse := by
        rw [List.take_succ_eq_append_getElem hlt, List.map_append, List.reverse_append]; rfl
      have hct : List.count (endP xs[k]) ((xs.take k).map endP).reverse = befN xs (endP xs[k]) k := by rw [List.count_reverse]; rfl
      have hlen : ((xs.take k).map endP).reverse.length ≤ 1048576 := by simp; omega
      have hyes := fun (h : firstP n xs k = true) (w' : World) (v' : Value) (F' : List Nat) (ho : kMt.OwB 52 w' v' (accR (firstP n xs) xs k ++ [xs[k]]) F') => (accR_yes hlt h ▸ ho : kMt.OwB 52 w' v' (accR (firstP n xs) xs (k + 1)) F')
      have hno := fun (h : firstP n xs k = false) (w' : World) (v' : Value) (F' : List Nat) (ho : kMt.OwB 52 w' v' (accR (firstP n xs) xs k) F') => (accR_no hlt h ▸ ho : kMt.OwB 52 w' v' (accR (firstP n xs) xs (k + 1)) F')
      have HLE := Lib.hid (show (accR (firstP n xs) xs k).length ≤ 1048576 from Nat.le_trans (accR_len _ _ _) (by omega))
      have hkl : (k : Int) < (xs.length : Int) := by omega
      obtain ⟨x, ex⟩ : ∃ x, x = xs[k] := ⟨_, rfl⟩
      rw [← ex] at c0 c1 c2 hin hsize hsx hyes hp hokx hS1 hct
      have hp64 : Pairs64 (endP x) := endP_ok hokx (shP_pos hsx)
      obtain ⟨S, eS⟩ : ∃ S, S = ((xs.take k).map endP).reverse := ⟨_, rfl⟩
      rw [← eS] at hS1 hct hlen HMP
      have HP := Lib.hid (show firstP n xs k = decide ((S.count (endP x) : Int) + 1 ≤ n) by rw [hp, hct]; exact decide_eq_decide.2 (by omega))
      have HS1 := Lib.hid hS1
      have HIN := Lib.hid hin
      have HIW := Lib.hid (show x.w.At B wr (.agg #[.slice q x.w.ns.length d, .slice q' x.w.es.length d']) ∧ kBn.Rd B wr (.slice r x.bs.length e) x.bs from by obtain ⟨a1, a2, a3, e1, h1, h2, h3⟩ := hin; cases e1; exact ⟨⟨_, _, rfl, h1, h2⟩, h3⟩)
      have HYES := Lib.hid hyes
      have HNO := Lib.hid hno
      have hn1 : x.w.need ≤ 1048576 := by unfold Mt.need at hsize; omega
      have hn2 : x.bs.length + sumBn x.bs ≤ 1048576 := by unfold Mt.need at hsize; omega
      have HSX := Lib.hid hsx
      clear ex hin hsize hyes hno hsx hp hokx hS1 hct eS
      obtain ⟨W, eW⟩ : ∃ W, W = wr.alloc (.cells #[.slice q x.w.ns.length d, .slice q' x.w.es.length d', .slice r x.bs.length e] 52) := ⟨_, rfl⟩
      have kW : Below wr.heap.size wr W := by rw [eW]; exact (Below.refl _ _).alloc (Nat.le_refl _) _
      have sW : wr.heap.size < W.heap.size := by rw [eW]; simp
      have HK := Lib.hid (fun (E : World) (hE : Below W.heap.size W E) => (⟨keepc hE sW (by rw [eW]; simp [go_sem]), keepc hE sW (by rw [eW]; simp [go_sem]), keepc hE sW (by rw [eW]; simp [go_sem])⟩ : E.cell? ⟨wr.heap.size, 0, none⟩ = some (.slice q x.w.ns.length d) ∧ E.cell? ⟨wr.heap.size, 1, none⟩ = some (.slice q' x.w.es.length d') ∧ E.cell? ⟨wr.heap.size, 2, none⟩ = some (.slice r x.bs.length e)))
      have EW := Lib.hid eW
      have kWw : Chg [b0] w W := HB.out.trans (Chg.of_below kW [b0])
      have hb0W : b0 < W.heap.size := by omega
      clear eW
      go_upto_region 5 with fail
      rw [← EW.out]
      obtain ⟨m0, m1, m2⟩ := HK.out _ (Below.refl _ _)
      go_wp2_with fail
      refine (firstFn_any x _ n a1 a2 b0 S B W (HIW.out.1.to (kW.mono (by omega)) (Nat.le_refl _)) (by omega) HSX.out hp64 (HC1.out W kWw).1 (HC1.out W kWw).2 h1b h2b hBb (HMP.out.chg (G := []) (Chg.of_below kW []) (by simp)) hlen).mono ?_
      rintro en w1 ⟨rfl, hI, hc1⟩
      have HIM := Lib.hid (show IMap w1 b0 ((xs.take (k + 1)).map endP).reverse (cntV ((xs.take (k + 1)).map endP).reverse) by rw [← HS1.out]; exact hI)
      have s1 := hc1.size
      have r9 : Chg [b0] wr w1 := (Chg.of_below kW [b0]).trans hc1
      have HC9 := Lib.hid (show Chg [b0] w w1 from kWw.trans hc1)
      have HX1 := Lib.hid (HK.out _ (Below.refl _ _))
      have HK1 := Lib.hid (fun (E : World) (hE : Below w1.heap.size w1 E) => (⟨keepc hE (by omega) (hc1.cellOf (by simp; omega) HX1.out.1), keepc hE (by omega) (hc1.cellOf (by simp; omega) HX1.out.2.1), keepc hE (by omega) (hc1.cellOf (by simp; omega) HX1.out.2.2)⟩ : E.cell? ⟨wr.heap.size, 0, none⟩ = some (.slice q x.w.ns.length d) ∧ E.cell? ⟨wr.heap.size, 1, none⟩ = some (.slice q' x.w.es.length d') ∧ E.cell? ⟨wr.heap.size, 2, none⟩ = some (.slice r x.bs.length e)))
      have HBB := Lib.hid (show Below B wr w1 from r9.below (by omega) (by simp; exact hBb))
      have HO9 := Lib.hid (HO.out.chg r9 (fun y hy => by have := HF.out y hy; simp; omega))
      clear hI hc1 m0 m1 m2
      obtain ⟨m0, m1, m2⟩ := HK1.out _ (Below.refl _ _)
      have hq1 : wr.heap.size < w1.heap.size := by omega
      cases hp : decide ((S.count (endP x) : Int) + 1 ≤ n) with
      | false =>
        have HN := Lib.hid (HNO.out (HP.out.trans hp) _ _ _ HO9.out)
        clear hp
        go_wp2_with fail
        go_roundw
        case rel => exact ⟨k + 1, F, by omega, by go_num, HN, HF, HIM, HC9⟩
        case measure => simp [intOf]; omega
      | true =>
        have HY := Lib.hid (HYES.out (HP.out.trans hp))
        clear hp
        have HKK := HK1
        have CW := Lib.hid (fun (E : World) (hE : Below w1.heap.size w1 E) => ((extendWalk_any x.w [] [] (.agg #[.slice q x.w.ns.length d, .slice q' x.w.es.length d']) (.slice none 0 0) (.slice none 0 0) B E (HIW.out.1.to (HBB.out.trans (hE.mono (by omega))) (Nat.le_refl _)) ⟨none, 0, 0, rfl, rfl, Nat.le_refl _, Nat.zero_le _, fun i hi => by simp at hi⟩ ⟨none, 0, 0, rfl, rfl, Nat.le_refl _, Nat.zero_le _, fun i hi => by simp at hi⟩ (by have := hE.size; omega) hn1 (by simp) (by simp)).mono (fun en w' ⟨v', G, e1, ho, hG, hb⟩ => by
          rw [wkExt_nil] at ho
          obtain ⟨pA, cA, qA, dA, rfl⟩ := ho.at.form
          exact ⟨pA, cA, qA, dA, G, e1, ho, fun y hy => Nat.le_trans hE.size (hG y hy), hb⟩) : Calls Try.prog 112 #[.agg #[.slice q x.w.ns.length d, .slice q' x.w.es.length d'], .slice none 0 0, .slice none 0 0] E (fun en w' => ∃ (pA : Option Addr) (cA : Nat) (qA : Option Addr) (dA : Nat) (G : List Nat), en = .returned (.agg #[.slice pA x.w.ns.length cA, .slice qA x.w.es.length dA]) ∧ x.w.Has (.agg #[.slice pA x.w.ns.length cA, .slice qA x.w.es.length dA]) G w' ∧ (∀ y ∈ G, w1.heap.size ≤ y) ∧ Below E.heap.size E w')))
        have CB := Lib.hid (fun (E : World) (hE : Below w1.heap.size w1 E) => copyBinds_any x.bs (.slice r x.bs.length e) B E (HIW.out.2.to (HBB.out.trans (hE.mono (by omega))) (Nat.le_refl _)) (by have := hE.size; omega) hn2)
        have HO1 := HO9
        have CM := Lib.hid (fun (E : World) (hE : Below w1.heap.size w1 E) (ty : TypeId) => appMatch (HO1.out.below hE) ty x)
        have rr := Below.refl w1.heap.size w1
        have hs9 : w.heap.size ≤ w1.heap.size := HC9.out.size
        have hbn : b0 < w1.heap.size := by omega
        go_upto_region 6 with fail
        go_region_held3 (fun w' => w'.cell? ⟨wr.heap.size, 0, none⟩ = some (.slice q x.w.ns.length d) ∧ w'.cell? ⟨wr.heap.size, 1, none⟩ = some (.slice q' x.w.es.length d') ∧ w'.cell? ⟨wr.heap.size, 2, none⟩ = some (.slice r x.bs.length e))
          (first | exact hk9 | exact HKK.out _ (show Below w1.heap.size w1 _ by ((repeat (first | with_reducible assumption | with_reducible exact Below.refl _ _ | refine Below.setCell ?_ (by (first | omega | (simp; omega) | (simp; done) | fail "sml")) _ | refine Below.drew ?_ | refine Below.alloc ?_ (by (first | omega | (simp; omega) | (simp; done) | fail "sml")) _)); first | done | fail "chs")))
          (first
            | (go_at_call 112; with_reducible refine (CW.out _ (show Below w1.heap.size w1 _ by ((repeat (first | with_reducible assumption | with_reducible exact Below.refl _ _ | refine Below.setCell ?_ (by (first | omega | (simp; omega) | (simp; done) | fail "sml")) _ | refine Below.drew ?_ | refine Below.alloc ?_ (by (first | omega | (simp; omega) | (simp; done) | fail "sml")) _)); first | done | fail "chs"))).mono ?_; rintro en wA ⟨pA, cA, qA, dA, FA, rfl, ho, hF, hb⟩; have kA := Below.trans (show Below w1.heap.size w1 _ by ((repeat (first | with_reducible assumption | with_reducible exact Below.refl _ _ | refine Below.setCell ?_ (by (first | omega | (simp; omega) | (simp; done) | fail "sml")) _ | refine Below.drew ?_ | refine Below.alloc ?_ (by (first | omega | (simp; omega) | (simp; done) | fail "sml")) _)); first | done | fail "chs")) (hb.mono (by (first | omega | (simp; omega) | (simp; done) | fail "sml"))); have zA := kA.size; have rA := Below.refl wA.heap.size wA; have HWA := Lib.hid ho; have GA := Lib.hid hF; clear ho hF hb)
            | (go_at_call 61; with_reducible refine (CB.out _ (show Below w1.heap.size w1 _ by ((repeat (first | with_reducible assumption | with_reducible exact Below.refl _ _ | refine Below.setCell ?_ (by (first | omega | (simp; omega) | (simp; done) | fail "sml")) _ | refine Below.drew ?_ | refine Below.alloc ?_ (by (first | omega | (simp; omega) | (simp; done) | fail "sml")) _)); first | done | fail "chs"))).mono ?_; rintro en wB ⟨u, FB, rfl, ho, hF, hb⟩; obtain ⟨pB, cB, rfl⟩ := ho.form; have kB := Below.trans (show Below w1.heap.size w1 _ by ((repeat (first | with_reducible assumption | with_reducible exact Below.refl _ _ | refine Below.setCell ?_ (by (first | omega | (simp; omega) | (simp; done) | fail "sml")) _ | refine Below.drew ?_ | refine Below.alloc ?_ (by (first | omega | (simp; omega) | (simp; done) | fail "sml")) _)); first | done | fail "chs")) (hb.mono (by (first | omega | (simp; omega) | (simp; done) | fail "sml"))); have zB := kB.size; have rB := Below.refl wB.heap.size wB; have sB := Below.trans (show Below wA.heap.size wA _ by ((repeat (first | with_reducible assumption | with_reducible exact Below.refl _ _ | refine Below.setCell ?_ (by (first | omega | (simp; omega) | (simp; done) | fail "sml")) _ | refine Below.drew ?_ | refine Below.alloc ?_ (by (first | omega | (simp; omega) | (simp; done) | fail "sml")) _)); first | done | fail "chs")) (hb.mono (by (first | omega | (simp; omega) | (simp; done) | fail "sml"))); have GB0 := (fun y hy => Nat.le_trans (show Below wA.heap.size wA _ by ((repeat (first | with_reducible assumption | with_reducible exact Below.refl _ _ | refine Below.setCell ?_ (by (first | omega | (simp; omega) | (simp; done) | fail "sml")) _ | refine Below.drew ?_ | refine Below.alloc ?_ (by (first | omega | (simp; omega) | (simp; done) | fail "sml")) _)); first | done | fail "chs")).size (hF y hy)); have HMB := Lib.hid (Mt.has_mk (HWA.out.chg (Chg.of_below sB []) (by simp)) ho (fun y hy hy2 => by have := HWA.out.lt y hy; have := GB0 y hy2; omega)); have GB := Lib.hid (show ∀ y ∈ FA ++ FB, w1.heap.size ≤ y from fun y hy => by rcases List.mem_append.1 hy with h | h; exact GA.out y h; exact Nat.le_trans zA (GB0 y h)); clear ho hF hb GB0)
            | (refine step_app_src (by rfl) (.tmp 18) (.tmp 26) 57 (by rfl) _ _ (by rfl) (by rfl) _ (CM.out _ (show Below w1.heap.size w1 _ by ((repeat (first | with_reducible assumption | with_reducible exact Below.refl _ _ | refine Below.setCell ?_ (by (first | omega | (simp; omega) | (simp; done) | fail "sml")) _ | refine Below.drew ?_ | refine Below.alloc ?_ (by (first | omega | (simp; omega) | (simp; done) | fail "sml")) _)); first | done | fail "chs")) _ pA cA qA dA pB cB (FA ++ FB) _ _ (HMB.out.chg (Chg.of_below (show Below wB.heap.size wB _ by ((repeat (first | with_reducible assumption | with_reducible exact Below.refl _ _ | refine Below.setCell ?_ (by (first | omega | (simp; omega) | (simp; done) | fail "sml")) _ | refine Below.drew ?_ | refine Below.alloc ?_ (by (first | omega | (simp; omega) | (simp; done) | fail "sml")) _)); first | done | fail "chs")) []) (by simp)) (fun y hy hy2 => by have := HO1.out.lt y hy; have := GB.out y hy2; omega) (by simp [go_sem]) (by simp [go_sem]) (by simp [go_sem]) HLE.out) ?_; intro vC wC hv; obtain ⟨F', h1, h2, h3⟩ := hv; have hB9 := Lib.hid (chg_app HC9.out (show Below w1.heap.size w1 _ by ((repeat (first | with_reducible assumption | with_reducible exact Below.refl _ _ | refine Below.setCell ?_ (by (first | omega | (simp; omega) | (simp; done) | fail "sml")) _ | refine Below.drew ?_ | refine Below.alloc ?_ (by (first | omega | (simp; omega) | (simp; done) | fail "sml")) _)); first | done | fail "chs")) h3 HF.out); have hM9 := Lib.hid (imap_app HIM.out (show Below w1.heap.size w1 _ by ((repeat (first | with_reducible assumption | with_reducible exact Below.refl _ _ | refine Below.setCell ?_ (by (first | omega | (simp; omega) | (simp; done) | fail "sml")) _ | refine Below.drew ?_ | refine Below.alloc ?_ (by (first | omega | (simp; omega) | (simp; done) | fail "sml")) _)); first | done | fail "chs")) h3 (fun hy => by have := HF.out _ hy; omega)); have hF9 := Lib.hid (ge_app hs9 (show Below w1.heap.size w1 _ by ((repeat (first | with_reducible assumption | with_reducible exact Below.refl _ _ | refine Below.setCell ?_ (by (first | omega | (simp; omega) | (simp; done) | fail "sml")) _ | refine Below.drew ?_ | refine Below.alloc ?_ (by (first | omega | (simp; omega) | (simp; done) | fail "sml")) _)); first | done | fail "chs")) h2 HF.out GB.out); have hO9 := Lib.hid (HY.out _ _ _ h1); have hk9 := (show wC.cell? ⟨wr.heap.size, 0, none⟩ = some (.slice q x.w.ns.length d) ∧ wC.cell? ⟨wr.heap.size, 1, none⟩ = some (.slice q' x.w.es.length d') ∧ wC.cell? ⟨wr.heap.size, 2, none⟩ = some (.slice r x.bs.length e) from ⟨h3.cellOf (fun hy => absurd (HO.out.lt _ hy) (by omega)) (HKK.out _ (show Below w1.heap.size w1 _ by ((repeat (first | with_reducible assumption | with_reducible exact Below.refl _ _ | refine Below.setCell ?_ (by (first | omega | (simp; omega) | (simp; done) | fail "sml")) _ | refine Below.drew ?_ | refine Below.alloc ?_ (by (first | omega | (simp; omega) | (simp; done) | fail "sml")) _)); first | done | fail "chs"))).1, h3.cellOf (fun hy => absurd (HO.out.lt _ hy) (by omega)) (HKK.out _ (show Below w1.heap.size w1 _ by ((repeat (first | with_reducible assumption | with_reducible exact Below.refl _ _ | refine Below.setCell ?_ (by (first | omega | (simp; omega) | (simp; done) | fail "sml")) _ | refine Below.drew ?_ | refine Below.alloc ?_ (by (first | omega | (simp; omega) | (simp; done) | fail "sml")) _)); first | done | fail "chs"))).2.1, h3.cellOf (fun hy => absurd (HO.out.lt _ hy) (by omega)) (HKK.out _ (show Below w1.heap.size w1 _ by ((repeat (first | with_reducible assumption | with_reducible exact Below.refl _ _ | refine Below.setCell ?_ (by (first | omega | (simp; omega) | (simp; done) | fail "sml")) _ | refine Below.drew ?_ | refine Below.alloc ?_ (by (first | omega | (simp; omega) | (simp; done) | fail "sml")) _)); first | done | fail "chs"))).2.2⟩); clear h1 h2 h3)
            | fail "no arm")
        go_wp2_with fail
        go_roundw
        case rel => exact ⟨k + 1, F', by omega, by go_num, hO9, hF9, hM9, hB9⟩
        case measure => simp [intOf]; omega
    · obtain rfl : k = xs.length := by omega
      have HO2 := Lib.hid HO.out.ow
      go_wp2_with fail
      go_ret
      exact ⟨_, F, rfl, HO2.out, HF.out, HB.out⟩

set_option maxRecDepth 100000 in
set_option maxHeartbeats 4000000 in
theorem firstMatches_any (xs : List Mt) (v : Value) (n : Int) (B : Nat) (w : World) (hv : kMt.Rd B w v xs) (hB : B ≤ w.heap.size) (hn : xs.length + sumMt xs ≤ 1048576) (hok : ∀ x ∈ xs, x.Ok) :
    Calls Try.prog 76 #[v, .int .i64 n] w (MbPost (firstR n xs) (okF n xs) w) := by
  obtain ⟨p, cap, rfl⟩ := hv.form
  have HV := Lib.hid hv
  clear hv
  obtain ⟨W, eW⟩ : ∃ W, W = w.alloc (.cells #[.int .i64 n] 3) := ⟨_, rfl⟩
  have kW : Below w.heap.size w W := by rw [eW]; exact (Below.refl _ _).alloc (Nat.le_refl _) _
  have sW : w.heap.size < W.heap.size := by rw [eW]; simp
  have HC := Lib.hid (fun (E : World) (hE : Below W.heap.size W E) => keepc hE sW (show W.cell? ⟨w.heap.size, 0, none⟩ = some (.int .i64 n) by rw [eW]; simp [go_sem]))
  have c0 := HC.out _ (Below.refl _ _)
  have EW := Lib.hid eW
  clear eW
  by_cases hneg : n < 0
  · have HO := Lib.hid (show okF n xs = false by unfold okF; rw [decide_eq_true hneg]; simp)
    have HR := Lib.hid (show firstR n xs = [] by unfold firstR; rw [HO.out]; rfl)
    go_enter Try.func76, Try.ntmps76
    go_upto_region 1 with fail
    rw [← EW.out]
    go_wp2_with fail
    refine bodyPost_ret (v := .tuple #[.slice none 0 0, .bool false]) (by simp [results, Try.results76, go_sem]) rfl ?_
    exact ⟨_, [], by rw [HO.out], by rw [HR.out]; exact (Kd.OwB.nil kMt 52 _ _).ow, by simp, kW⟩
  have HNG := Lib.hid (show decide (n < 0) = false from decide_eq_false hneg)
  have hmm := @run_makeMap Try.prog
  go_enter Try.func76, Try.ntmps76
  go_upto_region 1 with fail
  rw [← EW.out]
  go_wp2_with fail
  refine (haveShape_any xs _ B W (HV.out.to (kW.mono hB) (Nat.le_refl _)) (by omega) (by omega)).mono ?_
  rintro en w1 ⟨rfl, hb1⟩
  have r1 : Below w.heap.size w w1 := kW.trans (hb1.mono (by omega))
  have c1 := HC.out _ hb1
  have s1 := hb1.size
  clear hb1 c0
  cases hE : xs.all shP with
  | false =>
    have HO := Lib.hid (show okF n xs = false by unfold okF; rw [hE]; rfl)
    have HR := Lib.hid (show firstR n xs = [] by unfold firstR; rw [HO.out]; rfl)
    clear hE
    go_wp2_with fail
    refine bodyPost_ret (v := .tuple #[.slice none 0 0, .bool false]) (by simp [results, Try.results76, go_sem]) rfl ?_
    exact ⟨_, [], by rw [HO.out], by rw [HR.out]; exact (Kd.OwB.nil kMt 52 _ _).ow, by simp, r1⟩
  | true =>
    have HO := Lib.hid (show okF n xs = true by unfold okF; rw [hE, HNG.out]; rfl)
    have HR := Lib.hid (show firstR n xs = accR (firstP n xs) xs xs.length by unfold firstR; rw [HO.out]; rfl)
    have HE := Lib.hid hE
    clear hE
    obtain ⟨W2, eW2⟩ : ∃ W2, W2 = (w1.alloc (.map #[] 0)).alloc (.cells #[.map (some w1.heap.size)] 118) := ⟨_, rfl⟩
    have k2 : Below w1.heap.size w1 W2 := by rw [eW2]; exact ((Below.refl _ _).alloc (Nat.le_refl _) _).alloc (by simp) _
    have s2 : w1.heap.size + 1 < W2.heap.size := by rw [eW2]; simp
    have hm2 : IMap W2 w1.heap.size [] (cntV []) := by rw [eW2]; exact (IMap.made w1 (cntV [])).chg (G := []) ((Chg.refl _ _).alloc _) (by simp)
    have cm2 : W2.cell? ⟨w1.heap.size + 1, 0, none⟩ = some (.map (some w1.heap.size)) := by rw [eW2]; simp [go_sem]
    have cn2 := keepc k2 (by omega) c1
    have EW2 := Lib.hid eW2
    clear eW2
    go_upto_region 4 with fail
    rw [← EW2.out]
    go_wp2_with fail
    refine (pickFirst_any xs _ n (w1.heap.size + 1) w.heap.size w1.heap.size B W2 (HV.out.to ((r1.trans (k2.mono (by omega))).mono hB) (Nat.le_refl _)) (by omega) hn HE.out hok cm2 cn2 (by omega) (by omega) (by omega) hm2).mono ?_
    rintro en w2 ⟨v', F, rfl, ho, hF, hc2⟩
    have HO2 := Lib.hid ho
    have HF := Lib.hid (show ∀ y ∈ F, w.heap.size ≤ y from fun y hy => by have := hF y hy; omega)
    have HB := Lib.hid (show Below w.heap.size w w2 from (r1.trans (k2.mono (by omega))).trans (hc2.below (by omega) (by simp; omega)))
    clear ho hF hc2
    go_wp2_with fail
    refine bodyPost_ret (v := .tuple #[v', .bool true]) (by simp [results, Try.results76, go_sem]) rfl ?_
    exact ⟨_, F, by rw [HO.out], by rw [HR.out]; exact HO2.out, HF.out, HB.out⟩
end Go.Proofs.Ytggpnnoldjpmcaa
namespace Go.Proofs.Ytggpnnoldjpmcaa
open Go.RowKit

theorem not_shape {xs : List Mt} (hs : xs.all shP = false) (n way : Int) : firstR n xs = chooseR way xs ∧ okF n xs = okC way xs ∧ groupR n xs = chooseR way xs ∧ okF n xs = false := by
  have h1 : okF n xs = false := by unfold okF; rw [hs]; rfl
  have h2 : okC way xs = false := by unfold okC; rw [hs]; rfl
  unfold firstR chooseR groupR
  rw [h1, h2]
  exact ⟨rfl, rfl, rfl, rfl⟩
theorem choose1 (xs : List Mt) : firstR (xs.length : Int) xs = chooseR 1 xs ∧ okF (xs.length : Int) xs = okC 1 xs := by
  cases hs : xs.all shP with
  | true => exact choose_all hs
  | false => exact ⟨(not_shape hs _ 1).1, (not_shape hs _ 1).2.1⟩
theorem choose2 (xs : List Mt) : firstR 1 xs = chooseR 2 xs ∧ okF 1 xs = okC 2 xs := by
  cases hs : xs.all shP with
  | true => exact choose_any hs
  | false => exact ⟨(not_shape hs _ 2).1, (not_shape hs _ 2).2.1⟩
theorem choose3 (xs : List Mt) : groupR 1 xs = chooseR 3 xs ∧ okF 1 xs = okC 3 xs := by
  cases hs : xs.all shP with
  | true => exact choose_short hs
  | false => exact ⟨(not_shape hs 1 3).2.2.1, (not_shape hs _ 3).2.1⟩
theorem groupR_mem {xs : List Mt} {n : Int} {x : Mt} (h : x ∈ groupR n xs) : x ∈ xs := by
  by_cases hk : okF n xs = true
  · rw [groupR_filter hk] at h; exact (List.mem_filter.1 h).1
  · unfold groupR at h; rw [if_neg hk] at h; simp at h

set_option maxRecDepth 100000 in
set_option maxHeartbeats 4000000 in
theorem chooseMatches_any (xs : List Mt) (v : Value) (n : Int) (B : Nat) (w : World) (hv : kMt.Rd B w v xs) (hB : B ≤ w.heap.size) (hn : xs.length + sumMt xs ≤ 1048576) (hok : ∀ x ∈ xs, x.Ok) :
    Calls Try.prog 29 #[v, .int .i64 n] w (MbPost (chooseR n xs) (okC n xs) w) := by
  obtain ⟨p, cap, rfl⟩ := hv.form
  have HV := Lib.hid hv
  clear hv
  by_cases h1 : n = 1
  · subst h1
    go_enter Try.func29, Try.ntmps29
    go_wp2_with fail
    refine (firstMatches_any xs _ (xs.length : Int) B w HV.out hB hn hok).mono ?_
    rintro en w1 ⟨v', F, rfl, ho, hF, hb⟩
    rw [(choose1 xs).1] at ho
    rw [(choose1 xs).2]
    have HO := Lib.hid ho
    have HF := Lib.hid hF
    have HB := Lib.hid hb
    clear ho hF hb
    go_wp2_with fail
    refine bodyPost_ret (v := .tuple #[v', .bool (okC 1 xs)]) (by simp [results, Try.results29, go_sem]) rfl ?_
    exact ⟨_, F, rfl, HO.out, HF.out, HB.out⟩
  have q1 : (n == 1) = false := by simpa using h1
  by_cases h2 : n = 2
  · subst h2
    go_enter Try.func29, Try.ntmps29
    go_wp2_with fail
    refine (firstMatches_any xs _ 1 B w HV.out hB hn hok).mono ?_
    rintro en w1 ⟨v', F, rfl, ho, hF, hb⟩
    rw [(choose2 xs).1] at ho
    rw [(choose2 xs).2]
    have HO := Lib.hid ho
    have HF := Lib.hid hF
    have HB := Lib.hid hb
    clear ho hF hb
    go_wp2_with fail
    refine bodyPost_ret (v := .tuple #[v', .bool (okC 2 xs)]) (by simp [results, Try.results29, go_sem]) rfl ?_
    exact ⟨_, F, rfl, HO.out, HF.out, HB.out⟩
  have q2 : (n == 2) = false := by simpa using h2
  by_cases h3 : n = 3
  · subst h3
    go_enter Try.func29, Try.ntmps29
    go_wp2_with fail
    refine (shortestGroups_any xs _ 1 B w HV.out hB hn hok).mono ?_
    rintro en w1 ⟨v', F, rfl, ho, hF, hb⟩
    rw [(choose3 xs).1] at ho
    rw [(choose3 xs).2]
    have HO := Lib.hid ho
    have HF := Lib.hid hF
    have HB := Lib.hid hb
    clear ho hF hb
    go_wp2_with fail
    refine bodyPost_ret (v := .tuple #[v', .bool (okC 3 xs)]) (by simp [results, Try.results29, go_sem]) rfl ?_
    exact ⟨_, F, rfl, HO.out, HF.out, HB.out⟩
  have q3 : (n == 3) = false := by simpa using h3
  by_cases h4 : n = 4
  · subst h4
    have HSM := Lib.hid (groupR_small 1 xs)
    cases hs : xs.all shP with
    | false =>
      have HK := Lib.hid (show okF 1 xs = false from (not_shape hs 1 4).2.2.2)
      have HR := Lib.hid (show chooseR 4 xs = [] by unfold chooseR okC; rw [hs]; rfl)
      have HC := Lib.hid (show okC 4 xs = false by unfold okC; rw [hs]; rfl)
      go_enter Try.func29, Try.ntmps29
      go_wp2_with fail
      refine (shortestGroups_any xs _ 1 B w HV.out hB hn hok).mono ?_
      rintro en w1 ⟨v', F, rfl, ho, hF, hb⟩
      rw [HK.out]
      have HB := Lib.hid hb
      clear ho hF hb
      go_wp2_with fail
      refine bodyPost_ret (v := .tuple #[.slice none 0 0, .bool false]) (by simp [results, Try.results29, go_sem]) rfl ?_
      exact ⟨_, [], by rw [HC.out], by rw [HR.out]; exact (Kd.OwB.nil kMt 52 _ _).ow, by simp, HB.out⟩
    | true =>
      have HK := Lib.hid (show okF 1 xs = true by unfold okF; rw [hs]; rfl)
      have HC := Lib.hid (choose_one hs)
      have HOK := Lib.hid (show ∀ x ∈ groupR 1 xs, x.Ok from fun x hx => hok x (groupR_mem hx))
      go_enter Try.func29, Try.ntmps29
      go_wp2_with fail
      refine (shortestGroups_any xs _ 1 B w HV.out hB hn hok).mono ?_
      rintro en w1 ⟨v', F, rfl, ho, hF, hb⟩
      rw [HK.out]
      have HO := Lib.hid ho
      have HB := Lib.hid hb
      clear ho hF hb
      go_wp2_with fail
      refine (firstMatches_any (groupR 1 xs) _ 1 w1.heap.size w1 HO.out.rd (Nat.le_refl _) (by have := HSM.out; omega) HOK.out).mono ?_
      rintro en w2 ⟨v2, F2, rfl, ho, hF, hb⟩
      rw [HC.out.1] at ho
      rw [HC.out.2]
      have HO2 := Lib.hid ho
      have HF2 := Lib.hid (show ∀ y ∈ F2, w.heap.size ≤ y from fun y hy => Nat.le_trans HB.out.size (hF y hy))
      have HB2 := Lib.hid (HB.out.trans (hb.mono HB.out.size))
      clear ho hF hb
      go_wp2_with fail
      refine bodyPost_ret (v := .tuple #[v2, .bool (okC 4 xs)]) (by simp [results, Try.results29, go_sem]) rfl ?_
      exact ⟨_, F2, rfl, HO2.out, HF2.out, HB2.out⟩
  have q4 : (n == 4) = false := by simpa using h4
  have HC := Lib.hid (show okC n xs = false by unfold okC; rw [decide_eq_false (by omega)]; simp)
  have HR := Lib.hid (show chooseR n xs = [] by unfold chooseR; rw [HC.out]; rfl)
  clear h1 h2 h3 h4
  go_enter Try.func29, Try.ntmps29
  go_wp2_with fail
  refine bodyPost_ret (v := .tuple #[.slice none 0 0, .bool false]) (by simp [results, Try.results29, go_sem]) rfl ?_
  exact ⟨_, [], by rw [HC.out], by rw [HR.out]; exact (Kd.OwB.nil kMt 52 _ _).ow, by simp, Below.refl _ _⟩
end Go.Proofs.Ytggpnnoldjpmcaa
namespace Go.Proofs.Ytggpnnoldjpmcaa
open Go.RowKit

set_option maxRecDepth 100000 in
set_option maxHeartbeats 8000000 in
theorem l9First_any (xs : List Mt) (v : Value) (at_ : Nat) (B : Nat) (w : World) (hv : kMt.Rd B w v xs) (hB : B ≤ w.heap.size) (hat : at_ < xs.length) (hsh : xs.all shP = true) :
    Calls Try.prog 104 #[v, .int .i64 at_] w fun en w' => en = .returned (.int .i64 (fstN xs (endP xs[at_]) (lenE xs[at_]) at_)) ∧ Below w.heap.size w w' := by
  obtain ⟨p, cap, rfl⟩ := hv.form
  obtain ⟨_, hm1, hm2⟩ := hv.max
  unfold maxLen at hm2
  have HV := Lib.hid hv
  have HSH := Lib.hid (List.all_eq_true.1 hsh)
  obtain ⟨b, off, q', d', q2', d2', r', e', rfl, hb, g0, g1, g2, hin'⟩ := kMt_get hv hat
  have hsy := HSH.out _ (List.getElem_mem hat)
  obtain ⟨y, ey⟩ : ∃ y, y = xs[at_] := ⟨_, rfl⟩
  rw [← ey] at g0 g1 g2 hin' hsy ⊢
  obtain ⟨Y, eY⟩ : ∃ Y, Y = endP y := ⟨_, rfl⟩
  have eo' : y.w.es.length = lenE y := rfl
  rw [← eY]
  rw [eo'] at g1
  have hax : (at_ : Int) < (xs.length : Int) := by omega
  have HIN2 := Lib.hid hin'
  have HSY := Lib.hid hsy
  have HEY2 := Lib.hid eY
  have HG := Lib.hid (fun (E : World) (hE : Below w.heap.size w E) => (⟨keepc hE (by omega) g0, keepc hE (by omega) g1, keepc hE (by omega) g2⟩ : E.cell? ⟨b, off + at_ * 3, none⟩ = some (.slice q' y.w.ns.length d') ∧ E.cell? ⟨b, off + at_ * 3 + 1, none⟩ = some (.slice q2' (lenE y) d2') ∧ E.cell? ⟨b, off + at_ * 3 + 2, none⟩ = some (.slice r' y.bs.length e')))
  clear hv hsh eY g0 g1 g2 hin' hsy ey
  go_enter Try.func104, Try.ntmps104
  go_wp2_with fail
  go_loopw [5, 6] (fun nn ii wr => ∃ (i : Nat), i ≤ at_ ∧ ii = .int .i64 i ∧ nn = .int .i64 (fstN xs Y (lenE y) i) ∧ Below w.heap.size w wr) (fun _ ii _ => at_ - (intOf ii).toNat)
  case atStart => exact ⟨0, Nat.zero_le _, rfl, by rw [fstN_zero]; rfl, Below.refl _ _⟩
  case round =>
    obtain ⟨i, hi, rfl, rfl, hbw⟩ := hrel
    have HB := Lib.hid hbw
    have hsz := HB.out.size
    clear hbw
    by_cases hlt : i < at_
    · have hlx : i < xs.length := by omega
      have hil : (i : Int) < (at_ : Int) := by omega
      have hix : (i : Int) < (xs.length : Int) := by omega
      have HLT := Lib.hid (show i + 1 ≤ at_ from hlt)
      obtain ⟨b0, off0, q, d, q2, d2, r, e, ee, hb0, c0, c1, c2, hin⟩ := kMt_get (HV.out.to (HB.out.mono hB) (Nat.le_refl _)) hlx
      cases ee
      have hsx := HSH.out _ (List.getElem_mem hlx)
      have hN := fstN_succ hlx Y (lenE y)
      have HLE := Lib.hid (show fstN xs Y (lenE y) i ≤ 9223372036854775806 from Nat.le_trans (fstN_le xs Y (lenE y) i) (by omega))
      obtain ⟨x, ex⟩ : ∃ x, x = xs[i]'hlx := ⟨_, rfl⟩
      rw [← ex] at c0 c1 c2 hin hsx hN
      have HIN := Lib.hid hin
      have HSX := Lib.hid hsx
      have HN := Lib.hid hN
      have hbr : b < wr.heap.size := by omega
      have HK := Lib.hid (fun (E : World) (hE : Below wr.heap.size wr E) => (⟨⟨keepc hE hbr c0, keepc hE hbr c1, keepc hE hbr c2⟩, HG.out E (HB.out.trans (hE.mono hsz))⟩ : (E.cell? ⟨b, off + i * 3, none⟩ = some (.slice q x.w.ns.length d) ∧ E.cell? ⟨b, off + i * 3 + 1, none⟩ = some (.slice q2 (lenE x) d2) ∧ E.cell? ⟨b, off + i * 3 + 2, none⟩ = some (.slice r x.bs.length e)) ∧ E.cell? ⟨b, off + at_ * 3, none⟩ = some (.slice q' y.w.ns.length d') ∧ E.cell? ⟨b, off + at_ * 3 + 1, none⟩ = some (.slice q2' (lenE y) d2') ∧ E.cell? ⟨b, off + at_ * 3 + 2, none⟩ = some (.slice r' y.bs.length e')))
      clear c0 c1 c2 hin hsx ex hN
      by_cases h2 : endP x = Y
      · have CSM := Lib.hid (fun (E : World) (hE : Below wr.heap.size wr E) => ((l9Same_any x y (.agg #[.slice q x.w.ns.length d, .slice q2 (lenE x) d2, .slice r x.bs.length e]) (.agg #[.slice q' y.w.ns.length d', .slice q2' (lenE y) d2', .slice r' y.bs.length e']) B E (HIN.out.to (hE.mono (by omega)) (Nat.le_refl _)) (HIN2.out.to ((HB.out.trans (hE.mono hsz)).mono hB) (Nat.le_refl _)) (by have := hE.size; omega) HSX.out HSY.out).mono (fun en w' h => ⟨h.1.trans (by rw [← HEY2.out, decide_eq_true h2]), hE.trans (h.2.mono hE.size)⟩) : Calls Try.prog 84 #[.agg #[.slice q x.w.ns.length d, .slice q2 (lenE x) d2, .slice r x.bs.length e], .agg #[.slice q' y.w.ns.length d', .slice q2' (lenE y) d2', .slice r' y.bs.length e']] E (fun en w' => en = .returned (.bool true) ∧ Below wr.heap.size wr w')))
        by_cases h3 : lenE x = lenE y
        · have h3' : ((lenE x : Int) == (lenE y : Int)) = true := by simp [h3]
          have HX := Lib.hid (show fstN xs Y (lenE y) (i + 1) = fstN xs Y (lenE y) i + 1 by rw [HN.out, if_pos ⟨h2, h3⟩])
          have HW := Lib.hid (show RowKit.wrap64 ((fstN xs Y (lenE y) i : Int) + 1) = ((fstN xs Y (lenE y) (i + 1) : Nat) : Int) by rw [HX.out, ← IntWalk.i64_left, IntWalk.i64_in _ (by have := HLE.out; omega)]; rfl)
          clear h3
          go_upto_region 5 with fail
          go_cut [37] (fun s wx => s = .bool true ∧ Below wr.heap.size wr wx)
          case first =>
            refine wp_region_held_drew (S := fun w' => (w'.cell? ⟨b, off + i * 3, none⟩ = some (.slice q x.w.ns.length d) ∧ w'.cell? ⟨b, off + i * 3 + 1, none⟩ = some (.slice q2 (lenE x) d2) ∧ w'.cell? ⟨b, off + i * 3 + 2, none⟩ = some (.slice r x.bs.length e)) ∧ w'.cell? ⟨b, off + at_ * 3, none⟩ = some (.slice q' y.w.ns.length d') ∧ w'.cell? ⟨b, off + at_ * 3 + 1, none⟩ = some (.slice q2' (lenE y) d2') ∧ w'.cell? ⟨b, off + at_ * 3 + 2, none⟩ = some (.slice r' y.bs.length e')) (by kernel_rfl) ?_ (fun hHeld => ?_)
            · exact HK.out _ (show Below wr.heap.size wr _ by ((repeat (first | with_reducible assumption | with_reducible exact Below.refl _ _ | refine Below.setCell ?_ (by (first | omega | (simp; omega) | (simp; done) | fail "sml")) _ | refine Below.drew ?_ | refine Below.alloc ?_ (by (first | omega | (simp; omega) | (simp; done) | fail "sml")) _)); first | done | fail "chs"))
            (refine takeL (i := 0) (v := ?_) rfl (by kernel_rfl) (by kernel_rfl) (by kernel_rfl) (fun _ _ _ h => h) (Or.inl ⟨by kernel_rfl, ?_⟩) (by assumption) ?_; rotate_left; (focus (intro w hSw; (try dsimp only at hSw); go_simp; first | done | with_reducible rfl | fail "take")); (try simp only [Act.put, List.setIfInBounds_toArray, List.set_cons_zero, List.set_cons_succ]))
            (refine takeL (i := 1) (v := ?_) rfl (by kernel_rfl) (by kernel_rfl) (by kernel_rfl) (fun _ _ _ h => h) (Or.inl ⟨by kernel_rfl, ?_⟩) (by assumption) ?_; rotate_left; (focus (intro w hSw; (try dsimp only at hSw); go_simp; first | done | with_reducible rfl | fail "take")); (try simp only [Act.put, List.setIfInBounds_toArray, List.set_cons_zero, List.set_cons_succ]))
            (refine takeL (i := 2) (v := ?_) rfl (by kernel_rfl) (by kernel_rfl) (by kernel_rfl) (fun _ _ _ h => h) (Or.inl ⟨by kernel_rfl, ?_⟩) (by assumption) ?_; rotate_left; (focus (intro w hSw; (try dsimp only at hSw); go_simp; first | done | with_reducible rfl | fail "take")); (try simp only [Act.put, List.setIfInBounds_toArray, List.set_cons_zero, List.set_cons_succ]))
            (refine takeL (i := 3) (v := ?_) rfl (by kernel_rfl) (by kernel_rfl) (by kernel_rfl) (fun _ _ _ h => h) (Or.inl ⟨by kernel_rfl, ?_⟩) (by assumption) ?_; rotate_left; (focus (intro w hSw; (try dsimp only at hSw); go_simp; first | done | with_reducible rfl | fail "take")); (try simp only [Act.put, List.setIfInBounds_toArray, List.set_cons_zero, List.set_cons_succ]))
            (refine takeL (i := 4) (v := ?_) rfl (by kernel_rfl) (by kernel_rfl) (by kernel_rfl) (fun _ _ _ h => h) (Or.inl ⟨by kernel_rfl, ?_⟩) (by assumption) ?_; rotate_left; (focus (intro w hSw; (try dsimp only at hSw); go_simp; first | done | with_reducible rfl | fail "take")); (try simp only [Act.put, List.setIfInBounds_toArray, List.set_cons_zero, List.set_cons_succ]))
            (refine takeL (i := 5) (v := ?_) rfl (by kernel_rfl) (by kernel_rfl) (by kernel_rfl) (fun _ _ _ h => h) (Or.inl ⟨by kernel_rfl, ?_⟩) (by assumption) ?_; rotate_left; (focus (intro w hSw; (try dsimp only at hSw); go_simp; first | done | with_reducible rfl | fail "take")); (try simp only [Act.put, List.setIfInBounds_toArray, List.set_cons_zero, List.set_cons_succ]))
            (refine takeL (i := 6) (v := ?_) rfl (by kernel_rfl) (by kernel_rfl) (by kernel_rfl) (fun _ _ _ h => h) (Or.inl ⟨by kernel_rfl, ?_⟩) (by assumption) ?_; rotate_left; (focus (intro w hSw; (try dsimp only at hSw); go_simp; first | done | with_reducible rfl | fail "take")); (try simp only [Act.put, List.setIfInBounds_toArray, List.set_cons_zero, List.set_cons_succ]))
            (refine takeL (i := 7) (v := ?_) rfl (by kernel_rfl) (by kernel_rfl) (by kernel_rfl) (fun _ _ _ h => h) (Or.inl ⟨by kernel_rfl, ?_⟩) (by assumption) ?_; rotate_left; (focus (intro w hSw; (try dsimp only at hSw); go_simp; first | done | with_reducible rfl | fail "take")); (try simp only [Act.put, List.setIfInBounds_toArray, List.set_cons_zero, List.set_cons_succ]))
            (refine callL (i := 8) rfl (by kernel_rfl) (by kernel_rfl) (fun K hK => ?_); go_simp)
            go_at_call 84
            with_reducible refine (CSM.out _ (by ((repeat (first | with_reducible assumption | with_reducible exact Below.refl _ _ | refine Below.setCell ?_ (by (first | omega | (simp; omega) | (simp; done) | fail "sml")) _ | refine Below.drew ?_ | refine Below.alloc ?_ (by (first | omega | (simp; omega) | (simp; done) | fail "sml")) _)); first | done | fail "chs"))).mono ?_
            rintro en wa ⟨rfl, hka⟩
            go_wp2_with fail
            refine hK.out _ _ ?_ (fun hHeld => ?_)
            · exact HK.out _ (show Below wr.heap.size wr _ by ((repeat (first | with_reducible assumption | with_reducible exact Below.refl _ _ | refine Below.setCell ?_ (by (first | omega | (simp; omega) | (simp; done) | fail "sml")) _ | refine Below.drew ?_ | refine Below.alloc ?_ (by (first | omega | (simp; omega) | (simp; done) | fail "sml")) _)); first | done | fail "chs"))
            clear hK K
            (try simp only [Act.put, List.setIfInBounds_toArray, List.set_cons_zero, List.set_cons_succ])
            (refine takeL (i := 9) (v := ?_) rfl (by kernel_rfl) (by kernel_rfl) (by kernel_rfl) (fun _ _ _ h => h) (Or.inl ⟨by kernel_rfl, ?_⟩) (by assumption) ?_; rotate_left; (focus (intro w hSw; (try dsimp only at hSw); go_simp; first | done | with_reducible rfl | fail "take")); (try simp only [Act.put, List.setIfInBounds_toArray, List.set_cons_zero, List.set_cons_succ]))
            (refine takeL (i := 10) (v := ?_) rfl (by kernel_rfl) (by kernel_rfl) (by kernel_rfl) (fun _ _ _ h => h) (Or.inl ⟨by kernel_rfl, ?_⟩) (by assumption) ?_; rotate_left; (focus (intro w hSw; (try dsimp only at hSw); go_simp; first | done | with_reducible rfl | fail "take")); (try simp only [Act.put, List.setIfInBounds_toArray, List.set_cons_zero, List.set_cons_succ]))
            (refine takeL (i := 11) (v := ?_) rfl (by kernel_rfl) (by kernel_rfl) (by kernel_rfl) (fun _ _ _ h => h) (Or.inl ⟨by kernel_rfl, ?_⟩) (by assumption) ?_; rotate_left; (focus (intro w hSw; (try dsimp only at hSw); go_simp; first | done | with_reducible rfl | fail "take")); (try simp only [Act.put, List.setIfInBounds_toArray, List.set_cons_zero, List.set_cons_succ]))
            (refine takeL (i := 12) (v := ?_) rfl (by kernel_rfl) (by kernel_rfl) (by kernel_rfl) (fun _ _ _ h => h) (Or.inl ⟨by kernel_rfl, ?_⟩) (by assumption) ?_; rotate_left; (focus (intro w hSw; (try dsimp only at hSw); go_simp; first | done | with_reducible rfl | fail "take")); (try simp only [Act.put, List.setIfInBounds_toArray, List.set_cons_zero, List.set_cons_succ]))
            (refine takeL (i := 13) (v := ?_) rfl (by kernel_rfl) (by kernel_rfl) (by kernel_rfl) (fun _ _ _ h => h) (Or.inl ⟨by kernel_rfl, ?_⟩) (by assumption) ?_; rotate_left; (focus (intro w hSw; (try dsimp only at hSw); go_simp; first | done | with_reducible rfl | fail "take")); (try simp only [Act.put, List.setIfInBounds_toArray, List.set_cons_zero, List.set_cons_succ]))
            (refine takeL (i := 14) (v := ?_) rfl (by kernel_rfl) (by kernel_rfl) (by kernel_rfl) (fun _ _ _ h => h) (Or.inl ⟨by kernel_rfl, ?_⟩) (by assumption) ?_; rotate_left; (focus (intro w hSw; (try dsimp only at hSw); go_simp; first | done | with_reducible rfl | fail "take")); (try simp only [Act.put, List.setIfInBounds_toArray, List.set_cons_zero, List.set_cons_succ]))
            (refine takeL (i := 15) (v := ?_) rfl (by kernel_rfl) (by kernel_rfl) (by kernel_rfl) (fun _ _ _ h => h) (Or.inl ⟨by kernel_rfl, ?_⟩) (by assumption) ?_; rotate_left; (focus (intro w hSw; (try dsimp only at hSw); go_simp; first | done | with_reducible rfl | fail "take")); (try simp only [Act.put, List.setIfInBounds_toArray, List.set_cons_zero, List.set_cons_succ]))
            (refine takeL (i := 16) (v := ?_) rfl (by kernel_rfl) (by kernel_rfl) (by kernel_rfl) (fun _ _ _ h => h) (Or.inl ⟨by kernel_rfl, ?_⟩) (by assumption) ?_; rotate_left; (focus (intro w hSw; (try dsimp only at hSw); go_simp; first | done | with_reducible rfl | fail "take")); (try simp only [Act.put, List.setIfInBounds_toArray, List.set_cons_zero, List.set_cons_succ]))
            (refine takeL (i := 17) (v := ?_) rfl (by kernel_rfl) (by kernel_rfl) (by kernel_rfl) (fun _ _ _ h => h) (Or.inl ⟨by kernel_rfl, ?_⟩) (by assumption) ?_; rotate_left; (focus (intro w hSw; (try dsimp only at hSw); go_simp; first | done | with_reducible rfl | fail "take")); (try simp only [Act.put, List.setIfInBounds_toArray, List.set_cons_zero, List.set_cons_succ]))
            (refine takeL (i := 18) (v := ?_) rfl (by kernel_rfl) (by kernel_rfl) (by kernel_rfl) (fun _ _ _ h => h) (Or.inl ⟨by kernel_rfl, ?_⟩) (by assumption) ?_; rotate_left; (focus (intro w hSw; (try dsimp only at hSw); go_simp; first | done | with_reducible rfl | fail "take")); (try simp only [Act.put, List.setIfInBounds_toArray, List.set_cons_zero, List.set_cons_succ]))
            (refine takeL (i := 19) (v := ?_) rfl (by kernel_rfl) (by kernel_rfl) (by kernel_rfl) (fun _ _ _ h => h) (Or.inl ⟨by kernel_rfl, ?_⟩) (by assumption) ?_; rotate_left; (focus (intro w hSw; (try dsimp only at hSw); go_simp; first | done | with_reducible rfl | fail "take")); (try simp only [Act.put, List.setIfInBounds_toArray, List.set_cons_zero, List.set_cons_succ]))
            (refine takeL (i := 20) (v := ?_) rfl (by kernel_rfl) (by kernel_rfl) (by kernel_rfl) (fun _ _ _ h => h) (Or.inl ⟨by kernel_rfl, ?_⟩) (by assumption) ?_; rotate_left; (focus (intro w hSw; (try dsimp only at hSw); go_simp; first | done | with_reducible rfl | fail "take")); (try simp only [Act.put, List.setIfInBounds_toArray, List.set_cons_zero, List.set_cons_succ]))
            (refine takeL (i := 21) (v := ?_) rfl (by kernel_rfl) (by kernel_rfl) (by kernel_rfl) (fun _ _ _ h => h) (Or.inl ⟨by kernel_rfl, ?_⟩) (by assumption) ?_; rotate_left; (focus (intro w hSw; (try dsimp only at hSw); go_simp; first | done | with_reducible rfl | fail "take")); (try simp only [Act.put, List.setIfInBounds_toArray, List.set_cons_zero, List.set_cons_succ]))
            (refine takeL (i := 22) (v := ?_) rfl (by kernel_rfl) (by kernel_rfl) (by kernel_rfl) (fun _ _ _ h => h) (Or.inl ⟨by kernel_rfl, ?_⟩) (by assumption) ?_; rotate_left; (focus (intro w hSw; (try dsimp only at hSw); go_simp; first | done | with_reducible rfl | fail "take")); (try simp only [Act.put, List.setIfInBounds_toArray, List.set_cons_zero, List.set_cons_succ]))
            (refine takeL (i := 23) (v := ?_) rfl (by kernel_rfl) (by kernel_rfl) (by kernel_rfl) (fun _ _ _ h => h) (Or.inl ⟨by kernel_rfl, ?_⟩) (by assumption) ?_; rotate_left; (focus (intro w hSw; (try dsimp only at hSw); go_simp; first | done | with_reducible rfl | fail "take")); (try simp only [Act.put, List.setIfInBounds_toArray, List.set_cons_zero, List.set_cons_succ]))
            (refine takeL (i := 24) (v := ?_) rfl (by kernel_rfl) (by kernel_rfl) (by kernel_rfl) (fun _ _ _ h => h) (Or.inl ⟨by kernel_rfl, ?_⟩) (by assumption) ?_; rotate_left; (focus (intro w hSw; (try dsimp only at hSw); go_simp; first | done | with_reducible rfl | fail "take")); (try simp only [Act.put, List.setIfInBounds_toArray, List.set_cons_zero, List.set_cons_succ]))
            (refine takeL (i := 25) (v := ?_) rfl (by kernel_rfl) (by kernel_rfl) (by kernel_rfl) (fun _ _ _ h => h) (Or.inl ⟨by kernel_rfl, ?_⟩) (by assumption) ?_; rotate_left; (focus (intro w hSw; (try dsimp only at hSw); go_simp; first | done | with_reducible rfl | fail "take")); (try simp only [Act.put, List.setIfInBounds_toArray, List.set_cons_zero, List.set_cons_succ]))
            refine wpAnyH_done (by kernel_rfl) ?_ _
            go_wp2_with fail
            go_meet
            exact ⟨rfl, by ((repeat (first | with_reducible assumption | with_reducible exact Below.refl _ _ | refine Below.setCell ?_ (by (first | omega | (simp; omega) | (simp; done) | fail "sml")) _ | refine Below.drew ?_ | refine Below.alloc ?_ (by (first | omega | (simp; omega) | (simp; done) | fail "sml")) _)); first | done | fail "chs")⟩
          case rest =>
            obtain ⟨rfl, hbx⟩ := hcut
            have HB2 := Lib.hid (HB.out.trans (hbx.mono hsz))
            go_wp2_with fail
            go_roundw
            case rel => exact ⟨i + 1, HLT.out, by go_num, congrArg (Value.int .i64) HW.out, HB2.out⟩
            case measure => have := HLT.out; simp [intOf]; omega
        · have h3' : ((lenE x : Int) == (lenE y : Int)) = false := by simp; omega
          have HX := Lib.hid (show fstN xs Y (lenE y) (i + 1) = fstN xs Y (lenE y) i by rw [HN.out, if_neg (fun h => h3 h.2)]; rfl)
          clear h3
          go_upto_region 5 with fail
          go_cut [37] (fun s wx => s = .bool false ∧ Below wr.heap.size wr wx)
          case first =>
            refine wp_region_held_drew (S := fun w' => (w'.cell? ⟨b, off + i * 3, none⟩ = some (.slice q x.w.ns.length d) ∧ w'.cell? ⟨b, off + i * 3 + 1, none⟩ = some (.slice q2 (lenE x) d2) ∧ w'.cell? ⟨b, off + i * 3 + 2, none⟩ = some (.slice r x.bs.length e)) ∧ w'.cell? ⟨b, off + at_ * 3, none⟩ = some (.slice q' y.w.ns.length d') ∧ w'.cell? ⟨b, off + at_ * 3 + 1, none⟩ = some (.slice q2' (lenE y) d2') ∧ w'.cell? ⟨b, off + at_ * 3 + 2, none⟩ = some (.slice r' y.bs.length e')) (by kernel_rfl) ?_ (fun hHeld => ?_)
            · exact HK.out _ (show Below wr.heap.size wr _ by ((repeat (first | with_reducible assumption | with_reducible exact Below.refl _ _ | refine Below.setCell ?_ (by (first | omega | (simp; omega) | (simp; done) | fail "sml")) _ | refine Below.drew ?_ | refine Below.alloc ?_ (by (first | omega | (simp; omega) | (simp; done) | fail "sml")) _)); first | done | fail "chs"))
            (refine takeL (i := 0) (v := ?_) rfl (by kernel_rfl) (by kernel_rfl) (by kernel_rfl) (fun _ _ _ h => h) (Or.inl ⟨by kernel_rfl, ?_⟩) (by assumption) ?_; rotate_left; (focus (intro w hSw; (try dsimp only at hSw); go_simp; first | done | with_reducible rfl | fail "take")); (try simp only [Act.put, List.setIfInBounds_toArray, List.set_cons_zero, List.set_cons_succ]))
            (refine takeL (i := 1) (v := ?_) rfl (by kernel_rfl) (by kernel_rfl) (by kernel_rfl) (fun _ _ _ h => h) (Or.inl ⟨by kernel_rfl, ?_⟩) (by assumption) ?_; rotate_left; (focus (intro w hSw; (try dsimp only at hSw); go_simp; first | done | with_reducible rfl | fail "take")); (try simp only [Act.put, List.setIfInBounds_toArray, List.set_cons_zero, List.set_cons_succ]))
            (refine takeL (i := 2) (v := ?_) rfl (by kernel_rfl) (by kernel_rfl) (by kernel_rfl) (fun _ _ _ h => h) (Or.inl ⟨by kernel_rfl, ?_⟩) (by assumption) ?_; rotate_left; (focus (intro w hSw; (try dsimp only at hSw); go_simp; first | done | with_reducible rfl | fail "take")); (try simp only [Act.put, List.setIfInBounds_toArray, List.set_cons_zero, List.set_cons_succ]))
            (refine takeL (i := 3) (v := ?_) rfl (by kernel_rfl) (by kernel_rfl) (by kernel_rfl) (fun _ _ _ h => h) (Or.inl ⟨by kernel_rfl, ?_⟩) (by assumption) ?_; rotate_left; (focus (intro w hSw; (try dsimp only at hSw); go_simp; first | done | with_reducible rfl | fail "take")); (try simp only [Act.put, List.setIfInBounds_toArray, List.set_cons_zero, List.set_cons_succ]))
            (refine takeL (i := 4) (v := ?_) rfl (by kernel_rfl) (by kernel_rfl) (by kernel_rfl) (fun _ _ _ h => h) (Or.inl ⟨by kernel_rfl, ?_⟩) (by assumption) ?_; rotate_left; (focus (intro w hSw; (try dsimp only at hSw); go_simp; first | done | with_reducible rfl | fail "take")); (try simp only [Act.put, List.setIfInBounds_toArray, List.set_cons_zero, List.set_cons_succ]))
            (refine takeL (i := 5) (v := ?_) rfl (by kernel_rfl) (by kernel_rfl) (by kernel_rfl) (fun _ _ _ h => h) (Or.inl ⟨by kernel_rfl, ?_⟩) (by assumption) ?_; rotate_left; (focus (intro w hSw; (try dsimp only at hSw); go_simp; first | done | with_reducible rfl | fail "take")); (try simp only [Act.put, List.setIfInBounds_toArray, List.set_cons_zero, List.set_cons_succ]))
            (refine takeL (i := 6) (v := ?_) rfl (by kernel_rfl) (by kernel_rfl) (by kernel_rfl) (fun _ _ _ h => h) (Or.inl ⟨by kernel_rfl, ?_⟩) (by assumption) ?_; rotate_left; (focus (intro w hSw; (try dsimp only at hSw); go_simp; first | done | with_reducible rfl | fail "take")); (try simp only [Act.put, List.setIfInBounds_toArray, List.set_cons_zero, List.set_cons_succ]))
            (refine takeL (i := 7) (v := ?_) rfl (by kernel_rfl) (by kernel_rfl) (by kernel_rfl) (fun _ _ _ h => h) (Or.inl ⟨by kernel_rfl, ?_⟩) (by assumption) ?_; rotate_left; (focus (intro w hSw; (try dsimp only at hSw); go_simp; first | done | with_reducible rfl | fail "take")); (try simp only [Act.put, List.setIfInBounds_toArray, List.set_cons_zero, List.set_cons_succ]))
            (refine callL (i := 8) rfl (by kernel_rfl) (by kernel_rfl) (fun K hK => ?_); go_simp)
            go_at_call 84
            with_reducible refine (CSM.out _ (by ((repeat (first | with_reducible assumption | with_reducible exact Below.refl _ _ | refine Below.setCell ?_ (by (first | omega | (simp; omega) | (simp; done) | fail "sml")) _ | refine Below.drew ?_ | refine Below.alloc ?_ (by (first | omega | (simp; omega) | (simp; done) | fail "sml")) _)); first | done | fail "chs"))).mono ?_
            rintro en wa ⟨rfl, hka⟩
            go_wp2_with fail
            refine hK.out _ _ ?_ (fun hHeld => ?_)
            · exact HK.out _ (show Below wr.heap.size wr _ by ((repeat (first | with_reducible assumption | with_reducible exact Below.refl _ _ | refine Below.setCell ?_ (by (first | omega | (simp; omega) | (simp; done) | fail "sml")) _ | refine Below.drew ?_ | refine Below.alloc ?_ (by (first | omega | (simp; omega) | (simp; done) | fail "sml")) _)); first | done | fail "chs"))
            clear hK K
            (try simp only [Act.put, List.setIfInBounds_toArray, List.set_cons_zero, List.set_cons_succ])
            (refine takeL (i := 9) (v := ?_) rfl (by kernel_rfl) (by kernel_rfl) (by kernel_rfl) (fun _ _ _ h => h) (Or.inl ⟨by kernel_rfl, ?_⟩) (by assumption) ?_; rotate_left; (focus (intro w hSw; (try dsimp only at hSw); go_simp; first | done | with_reducible rfl | fail "take")); (try simp only [Act.put, List.setIfInBounds_toArray, List.set_cons_zero, List.set_cons_succ]))
            (refine takeL (i := 10) (v := ?_) rfl (by kernel_rfl) (by kernel_rfl) (by kernel_rfl) (fun _ _ _ h => h) (Or.inl ⟨by kernel_rfl, ?_⟩) (by assumption) ?_; rotate_left; (focus (intro w hSw; (try dsimp only at hSw); go_simp; first | done | with_reducible rfl | fail "take")); (try simp only [Act.put, List.setIfInBounds_toArray, List.set_cons_zero, List.set_cons_succ]))
            (refine takeL (i := 11) (v := ?_) rfl (by kernel_rfl) (by kernel_rfl) (by kernel_rfl) (fun _ _ _ h => h) (Or.inl ⟨by kernel_rfl, ?_⟩) (by assumption) ?_; rotate_left; (focus (intro w hSw; (try dsimp only at hSw); go_simp; first | done | with_reducible rfl | fail "take")); (try simp only [Act.put, List.setIfInBounds_toArray, List.set_cons_zero, List.set_cons_succ]))
            (refine takeL (i := 12) (v := ?_) rfl (by kernel_rfl) (by kernel_rfl) (by kernel_rfl) (fun _ _ _ h => h) (Or.inl ⟨by kernel_rfl, ?_⟩) (by assumption) ?_; rotate_left; (focus (intro w hSw; (try dsimp only at hSw); go_simp; first | done | with_reducible rfl | fail "take")); (try simp only [Act.put, List.setIfInBounds_toArray, List.set_cons_zero, List.set_cons_succ]))
            (refine takeL (i := 13) (v := ?_) rfl (by kernel_rfl) (by kernel_rfl) (by kernel_rfl) (fun _ _ _ h => h) (Or.inl ⟨by kernel_rfl, ?_⟩) (by assumption) ?_; rotate_left; (focus (intro w hSw; (try dsimp only at hSw); go_simp; first | done | with_reducible rfl | fail "take")); (try simp only [Act.put, List.setIfInBounds_toArray, List.set_cons_zero, List.set_cons_succ]))
            (refine takeL (i := 14) (v := ?_) rfl (by kernel_rfl) (by kernel_rfl) (by kernel_rfl) (fun _ _ _ h => h) (Or.inl ⟨by kernel_rfl, ?_⟩) (by assumption) ?_; rotate_left; (focus (intro w hSw; (try dsimp only at hSw); go_simp; first | done | with_reducible rfl | fail "take")); (try simp only [Act.put, List.setIfInBounds_toArray, List.set_cons_zero, List.set_cons_succ]))
            (refine takeL (i := 15) (v := ?_) rfl (by kernel_rfl) (by kernel_rfl) (by kernel_rfl) (fun _ _ _ h => h) (Or.inl ⟨by kernel_rfl, ?_⟩) (by assumption) ?_; rotate_left; (focus (intro w hSw; (try dsimp only at hSw); go_simp; first | done | with_reducible rfl | fail "take")); (try simp only [Act.put, List.setIfInBounds_toArray, List.set_cons_zero, List.set_cons_succ]))
            (refine takeL (i := 16) (v := ?_) rfl (by kernel_rfl) (by kernel_rfl) (by kernel_rfl) (fun _ _ _ h => h) (Or.inl ⟨by kernel_rfl, ?_⟩) (by assumption) ?_; rotate_left; (focus (intro w hSw; (try dsimp only at hSw); go_simp; first | done | with_reducible rfl | fail "take")); (try simp only [Act.put, List.setIfInBounds_toArray, List.set_cons_zero, List.set_cons_succ]))
            (refine takeL (i := 17) (v := ?_) rfl (by kernel_rfl) (by kernel_rfl) (by kernel_rfl) (fun _ _ _ h => h) (Or.inl ⟨by kernel_rfl, ?_⟩) (by assumption) ?_; rotate_left; (focus (intro w hSw; (try dsimp only at hSw); go_simp; first | done | with_reducible rfl | fail "take")); (try simp only [Act.put, List.setIfInBounds_toArray, List.set_cons_zero, List.set_cons_succ]))
            (refine takeL (i := 18) (v := ?_) rfl (by kernel_rfl) (by kernel_rfl) (by kernel_rfl) (fun _ _ _ h => h) (Or.inl ⟨by kernel_rfl, ?_⟩) (by assumption) ?_; rotate_left; (focus (intro w hSw; (try dsimp only at hSw); go_simp; first | done | with_reducible rfl | fail "take")); (try simp only [Act.put, List.setIfInBounds_toArray, List.set_cons_zero, List.set_cons_succ]))
            (refine takeL (i := 19) (v := ?_) rfl (by kernel_rfl) (by kernel_rfl) (by kernel_rfl) (fun _ _ _ h => h) (Or.inl ⟨by kernel_rfl, ?_⟩) (by assumption) ?_; rotate_left; (focus (intro w hSw; (try dsimp only at hSw); go_simp; first | done | with_reducible rfl | fail "take")); (try simp only [Act.put, List.setIfInBounds_toArray, List.set_cons_zero, List.set_cons_succ]))
            (refine takeL (i := 20) (v := ?_) rfl (by kernel_rfl) (by kernel_rfl) (by kernel_rfl) (fun _ _ _ h => h) (Or.inl ⟨by kernel_rfl, ?_⟩) (by assumption) ?_; rotate_left; (focus (intro w hSw; (try dsimp only at hSw); go_simp; first | done | with_reducible rfl | fail "take")); (try simp only [Act.put, List.setIfInBounds_toArray, List.set_cons_zero, List.set_cons_succ]))
            (refine takeL (i := 21) (v := ?_) rfl (by kernel_rfl) (by kernel_rfl) (by kernel_rfl) (fun _ _ _ h => h) (Or.inl ⟨by kernel_rfl, ?_⟩) (by assumption) ?_; rotate_left; (focus (intro w hSw; (try dsimp only at hSw); go_simp; first | done | with_reducible rfl | fail "take")); (try simp only [Act.put, List.setIfInBounds_toArray, List.set_cons_zero, List.set_cons_succ]))
            (refine takeL (i := 22) (v := ?_) rfl (by kernel_rfl) (by kernel_rfl) (by kernel_rfl) (fun _ _ _ h => h) (Or.inl ⟨by kernel_rfl, ?_⟩) (by assumption) ?_; rotate_left; (focus (intro w hSw; (try dsimp only at hSw); go_simp; first | done | with_reducible rfl | fail "take")); (try simp only [Act.put, List.setIfInBounds_toArray, List.set_cons_zero, List.set_cons_succ]))
            (refine takeL (i := 23) (v := ?_) rfl (by kernel_rfl) (by kernel_rfl) (by kernel_rfl) (fun _ _ _ h => h) (Or.inl ⟨by kernel_rfl, ?_⟩) (by assumption) ?_; rotate_left; (focus (intro w hSw; (try dsimp only at hSw); go_simp; first | done | with_reducible rfl | fail "take")); (try simp only [Act.put, List.setIfInBounds_toArray, List.set_cons_zero, List.set_cons_succ]))
            (refine takeL (i := 24) (v := ?_) rfl (by kernel_rfl) (by kernel_rfl) (by kernel_rfl) (fun _ _ _ h => h) (Or.inl ⟨by kernel_rfl, ?_⟩) (by assumption) ?_; rotate_left; (focus (intro w hSw; (try dsimp only at hSw); go_simp; first | done | with_reducible rfl | fail "take")); (try simp only [Act.put, List.setIfInBounds_toArray, List.set_cons_zero, List.set_cons_succ]))
            (refine takeL (i := 25) (v := ?_) rfl (by kernel_rfl) (by kernel_rfl) (by kernel_rfl) (fun _ _ _ h => h) (Or.inl ⟨by kernel_rfl, ?_⟩) (by assumption) ?_; rotate_left; (focus (intro w hSw; (try dsimp only at hSw); go_simp; first | done | with_reducible rfl | fail "take")); (try simp only [Act.put, List.setIfInBounds_toArray, List.set_cons_zero, List.set_cons_succ]))
            refine wpAnyH_done (by kernel_rfl) ?_ _
            go_wp2_with fail
            go_meet
            exact ⟨rfl, by ((repeat (first | with_reducible assumption | with_reducible exact Below.refl _ _ | refine Below.setCell ?_ (by (first | omega | (simp; omega) | (simp; done) | fail "sml")) _ | refine Below.drew ?_ | refine Below.alloc ?_ (by (first | omega | (simp; omega) | (simp; done) | fail "sml")) _)); first | done | fail "chs")⟩
          case rest =>
            obtain ⟨rfl, hbx⟩ := hcut
            have HB2 := Lib.hid (HB.out.trans (hbx.mono hsz))
            go_wp2_with fail
            go_roundw
            case rel => exact ⟨i + 1, HLT.out, by go_num, by rw [HX.out], HB2.out⟩
            case measure => have := HLT.out; simp [intOf]; omega
      · have CSM := Lib.hid (fun (E : World) (hE : Below wr.heap.size wr E) => ((l9Same_any x y (.agg #[.slice q x.w.ns.length d, .slice q2 (lenE x) d2, .slice r x.bs.length e]) (.agg #[.slice q' y.w.ns.length d', .slice q2' (lenE y) d2', .slice r' y.bs.length e']) B E (HIN.out.to (hE.mono (by omega)) (Nat.le_refl _)) (HIN2.out.to ((HB.out.trans (hE.mono hsz)).mono hB) (Nat.le_refl _)) (by have := hE.size; omega) HSX.out HSY.out).mono (fun en w' h => ⟨h.1.trans (by rw [← HEY2.out, decide_eq_false h2]), hE.trans (h.2.mono hE.size)⟩) : Calls Try.prog 84 #[.agg #[.slice q x.w.ns.length d, .slice q2 (lenE x) d2, .slice r x.bs.length e], .agg #[.slice q' y.w.ns.length d', .slice q2' (lenE y) d2', .slice r' y.bs.length e']] E (fun en w' => en = .returned (.bool false) ∧ Below wr.heap.size wr w')))
        have HX := Lib.hid (show fstN xs Y (lenE y) (i + 1) = fstN xs Y (lenE y) i by rw [HN.out, if_neg (fun h => h2 h.1)]; rfl)
        go_upto_region 5 with fail
        go_cut [37] (fun s wx => s = .bool false ∧ Below wr.heap.size wr wx)
        case first =>
          refine wp_region_held_drew (S := fun w' => (w'.cell? ⟨b, off + i * 3, none⟩ = some (.slice q x.w.ns.length d) ∧ w'.cell? ⟨b, off + i * 3 + 1, none⟩ = some (.slice q2 (lenE x) d2) ∧ w'.cell? ⟨b, off + i * 3 + 2, none⟩ = some (.slice r x.bs.length e)) ∧ w'.cell? ⟨b, off + at_ * 3, none⟩ = some (.slice q' y.w.ns.length d') ∧ w'.cell? ⟨b, off + at_ * 3 + 1, none⟩ = some (.slice q2' (lenE y) d2') ∧ w'.cell? ⟨b, off + at_ * 3 + 2, none⟩ = some (.slice r' y.bs.length e')) (by kernel_rfl) ?_ (fun hHeld => ?_)
          · exact HK.out _ (show Below wr.heap.size wr _ by ((repeat (first | with_reducible assumption | with_reducible exact Below.refl _ _ | refine Below.setCell ?_ (by (first | omega | (simp; omega) | (simp; done) | fail "sml")) _ | refine Below.drew ?_ | refine Below.alloc ?_ (by (first | omega | (simp; omega) | (simp; done) | fail "sml")) _)); first | done | fail "chs"))
          (refine takeL (i := 0) (v := ?_) rfl (by kernel_rfl) (by kernel_rfl) (by kernel_rfl) (fun _ _ _ h => h) (Or.inl ⟨by kernel_rfl, ?_⟩) (by assumption) ?_; rotate_left; (focus (intro w hSw; (try dsimp only at hSw); go_simp; first | done | with_reducible rfl | fail "take")); (try simp only [Act.put, List.setIfInBounds_toArray, List.set_cons_zero, List.set_cons_succ]))
          (refine takeL (i := 1) (v := ?_) rfl (by kernel_rfl) (by kernel_rfl) (by kernel_rfl) (fun _ _ _ h => h) (Or.inl ⟨by kernel_rfl, ?_⟩) (by assumption) ?_; rotate_left; (focus (intro w hSw; (try dsimp only at hSw); go_simp; first | done | with_reducible rfl | fail "take")); (try simp only [Act.put, List.setIfInBounds_toArray, List.set_cons_zero, List.set_cons_succ]))
          (refine takeL (i := 2) (v := ?_) rfl (by kernel_rfl) (by kernel_rfl) (by kernel_rfl) (fun _ _ _ h => h) (Or.inl ⟨by kernel_rfl, ?_⟩) (by assumption) ?_; rotate_left; (focus (intro w hSw; (try dsimp only at hSw); go_simp; first | done | with_reducible rfl | fail "take")); (try simp only [Act.put, List.setIfInBounds_toArray, List.set_cons_zero, List.set_cons_succ]))
          (refine takeL (i := 3) (v := ?_) rfl (by kernel_rfl) (by kernel_rfl) (by kernel_rfl) (fun _ _ _ h => h) (Or.inl ⟨by kernel_rfl, ?_⟩) (by assumption) ?_; rotate_left; (focus (intro w hSw; (try dsimp only at hSw); go_simp; first | done | with_reducible rfl | fail "take")); (try simp only [Act.put, List.setIfInBounds_toArray, List.set_cons_zero, List.set_cons_succ]))
          (refine takeL (i := 4) (v := ?_) rfl (by kernel_rfl) (by kernel_rfl) (by kernel_rfl) (fun _ _ _ h => h) (Or.inl ⟨by kernel_rfl, ?_⟩) (by assumption) ?_; rotate_left; (focus (intro w hSw; (try dsimp only at hSw); go_simp; first | done | with_reducible rfl | fail "take")); (try simp only [Act.put, List.setIfInBounds_toArray, List.set_cons_zero, List.set_cons_succ]))
          (refine takeL (i := 5) (v := ?_) rfl (by kernel_rfl) (by kernel_rfl) (by kernel_rfl) (fun _ _ _ h => h) (Or.inl ⟨by kernel_rfl, ?_⟩) (by assumption) ?_; rotate_left; (focus (intro w hSw; (try dsimp only at hSw); go_simp; first | done | with_reducible rfl | fail "take")); (try simp only [Act.put, List.setIfInBounds_toArray, List.set_cons_zero, List.set_cons_succ]))
          (refine takeL (i := 6) (v := ?_) rfl (by kernel_rfl) (by kernel_rfl) (by kernel_rfl) (fun _ _ _ h => h) (Or.inl ⟨by kernel_rfl, ?_⟩) (by assumption) ?_; rotate_left; (focus (intro w hSw; (try dsimp only at hSw); go_simp; first | done | with_reducible rfl | fail "take")); (try simp only [Act.put, List.setIfInBounds_toArray, List.set_cons_zero, List.set_cons_succ]))
          (refine takeL (i := 7) (v := ?_) rfl (by kernel_rfl) (by kernel_rfl) (by kernel_rfl) (fun _ _ _ h => h) (Or.inl ⟨by kernel_rfl, ?_⟩) (by assumption) ?_; rotate_left; (focus (intro w hSw; (try dsimp only at hSw); go_simp; first | done | with_reducible rfl | fail "take")); (try simp only [Act.put, List.setIfInBounds_toArray, List.set_cons_zero, List.set_cons_succ]))
          (refine callL (i := 8) rfl (by kernel_rfl) (by kernel_rfl) (fun K hK => ?_); go_simp)
          go_at_call 84
          with_reducible refine (CSM.out _ (by ((repeat (first | with_reducible assumption | with_reducible exact Below.refl _ _ | refine Below.setCell ?_ (by (first | omega | (simp; omega) | (simp; done) | fail "sml")) _ | refine Below.drew ?_ | refine Below.alloc ?_ (by (first | omega | (simp; omega) | (simp; done) | fail "sml")) _)); first | done | fail "chs"))).mono ?_
          rintro en wa ⟨rfl, hka⟩
          go_wp2_with fail
          refine hK.out _ _ ?_ (fun hHeld => ?_)
          · exact HK.out _ (show Below wr.heap.size wr _ by ((repeat (first | with_reducible assumption | with_reducible exact Below.refl _ _ | refine Below.setCell ?_ (by (first | omega | (simp; omega) | (simp; done) | fail "sml")) _ | refine Below.drew ?_ | refine Below.alloc ?_ (by (first | omega | (simp; omega) | (simp; done) | fail "sml")) _)); first | done | fail "chs"))
          clear hK K
          (try simp only [Act.put, List.setIfInBounds_toArray, List.set_cons_zero, List.set_cons_succ])
          (refine takeL (i := 9) (v := ?_) rfl (by kernel_rfl) (by kernel_rfl) (by kernel_rfl) (fun _ _ _ h => h) (Or.inl ⟨by kernel_rfl, ?_⟩) (by assumption) ?_; rotate_left; (focus (intro w hSw; (try dsimp only at hSw); go_simp; first | done | with_reducible rfl | fail "take")); (try simp only [Act.put, List.setIfInBounds_toArray, List.set_cons_zero, List.set_cons_succ]))
          (refine takeL (i := 10) (v := undef) rfl (by kernel_rfl) (by kernel_rfl) (by kernel_rfl) (fun _ _ _ h => h) (Or.inr ⟨by kernel_rfl, rfl⟩) (by assumption) ?_; (try simp only [Act.put, List.setIfInBounds_toArray, List.set_cons_zero, List.set_cons_succ]))
          (refine takeL (i := 11) (v := undef) rfl (by kernel_rfl) (by kernel_rfl) (by kernel_rfl) (fun _ _ _ h => h) (Or.inr ⟨by kernel_rfl, rfl⟩) (by assumption) ?_; (try simp only [Act.put, List.setIfInBounds_toArray, List.set_cons_zero, List.set_cons_succ]))
          (refine takeL (i := 12) (v := undef) rfl (by kernel_rfl) (by kernel_rfl) (by kernel_rfl) (fun _ _ _ h => h) (Or.inr ⟨by kernel_rfl, rfl⟩) (by assumption) ?_; (try simp only [Act.put, List.setIfInBounds_toArray, List.set_cons_zero, List.set_cons_succ]))
          (refine takeL (i := 13) (v := undef) rfl (by kernel_rfl) (by kernel_rfl) (by kernel_rfl) (fun _ _ _ h => h) (Or.inr ⟨by kernel_rfl, rfl⟩) (by assumption) ?_; (try simp only [Act.put, List.setIfInBounds_toArray, List.set_cons_zero, List.set_cons_succ]))
          (refine takeL (i := 14) (v := undef) rfl (by kernel_rfl) (by kernel_rfl) (by kernel_rfl) (fun _ _ _ h => h) (Or.inr ⟨by kernel_rfl, rfl⟩) (by assumption) ?_; (try simp only [Act.put, List.setIfInBounds_toArray, List.set_cons_zero, List.set_cons_succ]))
          (refine takeL (i := 15) (v := undef) rfl (by kernel_rfl) (by kernel_rfl) (by kernel_rfl) (fun _ _ _ h => h) (Or.inr ⟨by kernel_rfl, rfl⟩) (by assumption) ?_; (try simp only [Act.put, List.setIfInBounds_toArray, List.set_cons_zero, List.set_cons_succ]))
          (refine takeL (i := 16) (v := undef) rfl (by kernel_rfl) (by kernel_rfl) (by kernel_rfl) (fun _ _ _ h => h) (Or.inr ⟨by kernel_rfl, rfl⟩) (by assumption) ?_; (try simp only [Act.put, List.setIfInBounds_toArray, List.set_cons_zero, List.set_cons_succ]))
          (refine takeL (i := 17) (v := undef) rfl (by kernel_rfl) (by kernel_rfl) (by kernel_rfl) (fun _ _ _ h => h) (Or.inr ⟨by kernel_rfl, rfl⟩) (by assumption) ?_; (try simp only [Act.put, List.setIfInBounds_toArray, List.set_cons_zero, List.set_cons_succ]))
          (refine takeL (i := 18) (v := undef) rfl (by kernel_rfl) (by kernel_rfl) (by kernel_rfl) (fun _ _ _ h => h) (Or.inr ⟨by kernel_rfl, rfl⟩) (by assumption) ?_; (try simp only [Act.put, List.setIfInBounds_toArray, List.set_cons_zero, List.set_cons_succ]))
          (refine takeL (i := 19) (v := undef) rfl (by kernel_rfl) (by kernel_rfl) (by kernel_rfl) (fun _ _ _ h => h) (Or.inr ⟨by kernel_rfl, rfl⟩) (by assumption) ?_; (try simp only [Act.put, List.setIfInBounds_toArray, List.set_cons_zero, List.set_cons_succ]))
          (refine takeL (i := 20) (v := undef) rfl (by kernel_rfl) (by kernel_rfl) (by kernel_rfl) (fun _ _ _ h => h) (Or.inr ⟨by kernel_rfl, rfl⟩) (by assumption) ?_; (try simp only [Act.put, List.setIfInBounds_toArray, List.set_cons_zero, List.set_cons_succ]))
          (refine takeL (i := 21) (v := undef) rfl (by kernel_rfl) (by kernel_rfl) (by kernel_rfl) (fun _ _ _ h => h) (Or.inr ⟨by kernel_rfl, rfl⟩) (by assumption) ?_; (try simp only [Act.put, List.setIfInBounds_toArray, List.set_cons_zero, List.set_cons_succ]))
          (refine takeL (i := 22) (v := undef) rfl (by kernel_rfl) (by kernel_rfl) (by kernel_rfl) (fun _ _ _ h => h) (Or.inr ⟨by kernel_rfl, rfl⟩) (by assumption) ?_; (try simp only [Act.put, List.setIfInBounds_toArray, List.set_cons_zero, List.set_cons_succ]))
          (refine takeL (i := 23) (v := undef) rfl (by kernel_rfl) (by kernel_rfl) (by kernel_rfl) (fun _ _ _ h => h) (Or.inr ⟨by kernel_rfl, rfl⟩) (by assumption) ?_; (try simp only [Act.put, List.setIfInBounds_toArray, List.set_cons_zero, List.set_cons_succ]))
          (refine takeL (i := 24) (v := undef) rfl (by kernel_rfl) (by kernel_rfl) (by kernel_rfl) (fun _ _ _ h => h) (Or.inr ⟨by kernel_rfl, rfl⟩) (by assumption) ?_; (try simp only [Act.put, List.setIfInBounds_toArray, List.set_cons_zero, List.set_cons_succ]))
          (refine takeL (i := 25) (v := ?_) rfl (by kernel_rfl) (by kernel_rfl) (by kernel_rfl) (fun _ _ _ h => h) (Or.inl ⟨by kernel_rfl, ?_⟩) (by assumption) ?_; rotate_left; (focus (intro w hSw; (try dsimp only at hSw); go_simp; first | done | with_reducible rfl | fail "take")); (try simp only [Act.put, List.setIfInBounds_toArray, List.set_cons_zero, List.set_cons_succ]))
          refine wpAnyH_done (by kernel_rfl) ?_ _
          go_wp2_with fail
          go_meet
          exact ⟨rfl, by ((repeat (first | with_reducible assumption | with_reducible exact Below.refl _ _ | refine Below.setCell ?_ (by (first | omega | (simp; omega) | (simp; done) | fail "sml")) _ | refine Below.drew ?_ | refine Below.alloc ?_ (by (first | omega | (simp; omega) | (simp; done) | fail "sml")) _)); first | done | fail "chs")⟩
        case rest =>
          obtain ⟨rfl, hbx⟩ := hcut
          have HB2 := Lib.hid (HB.out.trans (hbx.mono hsz))
          go_wp2_with fail
          go_roundw
          case rel => exact ⟨i + 1, HLT.out, by go_num, by rw [HX.out], HB2.out⟩
          case measure => have := HLT.out; simp [intOf]; omega
    · obtain rfl : i = at_ := by omega
      have hil : ¬ (i : Int) < (i : Int) := by omega
      go_wp2_with fail
      go_ret
      exact ⟨rfl, HB.out⟩

set_option maxRecDepth 100000 in
set_option maxHeartbeats 4000000 in
theorem l9Keeps_any (xs : List Mt) (v : Value) (at_ : Nat) (way : Int) (B : Nat) (w : World) (hv : kMt.Rd B w v xs) (hB : B ≤ w.heap.size) (hn : xs.length ≤ 1048576) (hat : at_ < xs.length) (hsh : xs.all shP = true) :
    Calls Try.prog 74 #[v, .int .i64 at_, .int .i64 way] w fun en w' => en = .returned (.bool (keepB way xs at_ xs[at_])) ∧ Below w.heap.size w w' := by
  have CB := Lib.hid (l9Before_any xs v at_ B w hv hB hat hsh)
  have CL := Lib.hid (l9Lengths_any xs v at_ B w hv hB hn hat hsh)
  have CF := Lib.hid (fun (E : World) (hE : Below w.heap.size w E) => l9First_any xs v at_ B E (hv.to (hE.mono hB) (Nat.le_refl _)) (Nat.le_trans hB hE.size) hat hsh)
  obtain ⟨x, ex⟩ : ∃ x, x = xs[at_] := ⟨_, rfl⟩
  rw [← ex] at CB CL CF ⊢
  obtain ⟨tb, eb⟩ : ∃ tb : Nat, tb = befN xs (endP x) at_ := ⟨_, rfl⟩
  obtain ⟨tl, el⟩ : ∃ tl : Nat, tl = lesN xs (endP x) (lenE x) := ⟨_, rfl⟩
  obtain ⟨tf, ef⟩ : ∃ tf : Nat, tf = fstN xs (endP x) (lenE x) at_ := ⟨_, rfl⟩
  rw [← eb] at CB
  rw [← el] at CL
  rw [← ef] at CF
  have HR := Lib.hid (show keepB way xs at_ x = if way = 2 then decide (tb = 0) else if way = 3 then decide (tl = 0) else if way = 4 then decide (tl = 0) && decide (tf = 0) else true by unfold keepB; rw [eb, el, ef])
  rw [HR.out]
  obtain ⟨p, cap, rfl⟩ := hv.form
  clear hv ex eb el ef HR
  by_cases h2 : way = 2
  · subst h2
    go_enter Try.func74, Try.ntmps74
    go_wp2_with fail
    refine CB.out.mono ?_
    rintro en w1 ⟨rfl, hb1⟩
    have HB := Lib.hid hb1
    clear hb1
    go_wp2_with fail
    go_ret
    exact ⟨ret_bool (by rw [Bool.eq_iff_iff]; simp), HB.out⟩
  have q2 : (way == 2) = false := by simpa using h2
  by_cases h3 : way = 3
  · subst h3
    go_enter Try.func74, Try.ntmps74
    go_wp2_with fail
    refine CL.out.mono ?_
    rintro en w1 ⟨rfl, hb1⟩
    have HB := Lib.hid hb1
    clear hb1
    go_wp2_with fail
    go_ret
    exact ⟨ret_bool (by rw [Bool.eq_iff_iff]; simp), HB.out⟩
  have q3 : (way == 3) = false := by simpa using h3
  by_cases h4 : way = 4
  · subst h4
    go_enter Try.func74, Try.ntmps74
    go_wp2_with fail
    refine CL.out.mono ?_
    rintro en w1 ⟨rfl, hb1⟩
    have HB := Lib.hid hb1
    clear hb1
    by_cases h0 : tl = 0
    · subst h0
      go_wp2_with fail
      refine (CF.out w1 HB.out).mono ?_
      rintro en w2 ⟨rfl, hb2⟩
      have HB2 := Lib.hid (HB.out.trans (hb2.mono HB.out.size))
      clear hb2
      go_wp2_with fail
      go_ret
      exact ⟨ret_bool (by rw [Bool.eq_iff_iff]; simp), HB2.out⟩
    · have q0 : ((tl : Int) == 0) = false := by simp; omega
      have HD := Lib.hid (decide_eq_false h0)
      clear h0
      go_wp2_with fail
      go_ret
      exact ⟨ret_bool (by rw [HD.out]; rfl), HB.out⟩
  have q4 : (way == 4) = false := by simpa using h4
  have HR := Lib.hid (show (if way = 2 then decide (tb = 0) else if way = 3 then decide (tl = 0) else if way = 4 then decide (tl = 0) && decide (tf = 0) else true) = true by rw [if_neg h2, if_neg h3, if_neg h4])
  rw [HR.out]
  clear h2 h3 h4
  go_enter Try.func74, Try.ntmps74
  go_wp2_with fail
  go_ret
  exact ⟨rfl, Below.refl _ _⟩

set_option maxRecDepth 100000 in
set_option maxHeartbeats 4000000 in
theorem specChooseMatches_any (xs : List Mt) (v : Value) (n : Int) (B : Nat) (w : World) (hv : kMt.Rd B w v xs) (hB : B ≤ w.heap.size) (hn : xs.length + sumMt xs ≤ 1048576) :
    Calls Try.prog 27 #[v, .int .i64 n] w (MbPost (chooseR n xs) (okC n xs) w) := by
  obtain ⟨p, cap, rfl⟩ := hv.form
  obtain ⟨_, hm1, hm2⟩ := hv.max
  unfold maxLen at hm2
  have HV := Lib.hid hv
  clear hv
  obtain ⟨W, eW⟩ : ∃ W, W = w.alloc (.cells #[] 52) := ⟨_, rfl⟩
  have kW : Below w.heap.size w W := by rw [eW]; exact (Below.refl _ _).alloc (Nat.le_refl _) _
  have EW := Lib.hid eW
  clear eW
  go_enter Try.func27, Try.ntmps27
  go_wp2_with fail
  rw [← EW.out]
  refine (l9Shape_any xs _ B W (HV.out.to (kW.mono hB) (Nat.le_refl _)) (Nat.le_trans hB kW.size) (by omega)).mono ?_
  rintro en w1 ⟨rfl, hb1⟩
  have r1 : Below w.heap.size w w1 := kW.trans (hb1.mono kW.size)
  clear hb1
  cases hE : xs.all shP with
  | false =>
    have HO := Lib.hid (show okC n xs = false by unfold okC; rw [hE]; rfl)
    have HR := Lib.hid (show chooseR n xs = [] by unfold chooseR; rw [HO.out]; rfl)
    clear hE
    go_wp2_with fail
    refine bodyPost_ret (v := .tuple #[.slice (some ⟨w.heap.size, 0, none⟩) 0 0, .bool false]) (by simp [results, Try.results27, go_sem]) rfl ?_
    exact ⟨_, [], by rw [HO.out], by rw [HR.out]; exact (Kd.OwB.nil kMt 52 _ _).ow, by simp, r1⟩
  | true =>
    by_cases hneg : n < 1
    · have HO := Lib.hid (show okC n xs = false by unfold okC; rw [hE, decide_eq_false (by omega)]; rfl)
      have HR := Lib.hid (show chooseR n xs = [] by unfold chooseR; rw [HO.out]; rfl)
      clear hE
      go_wp2_with fail
      refine bodyPost_ret (v := .tuple #[.slice (some ⟨w.heap.size, 0, none⟩) 0 0, .bool false]) (by simp [results, Try.results27, go_sem]) rfl ?_
      exact ⟨_, [], by rw [HO.out], by rw [HR.out]; exact (Kd.OwB.nil kMt 52 _ _).ow, by simp, r1⟩
    by_cases hneg2 : 4 < n
    · have HO := Lib.hid (show okC n xs = false by unfold okC; rw [hE, decide_eq_false (by omega)]; rfl)
      have HR := Lib.hid (show chooseR n xs = [] by unfold chooseR; rw [HO.out]; rfl)
      clear hE
      go_wp2_with fail
      refine bodyPost_ret (v := .tuple #[.slice (some ⟨w.heap.size, 0, none⟩) 0 0, .bool false]) (by simp [results, Try.results27, go_sem]) rfl ?_
      exact ⟨_, [], by rw [HO.out], by rw [HR.out]; exact (Kd.OwB.nil kMt 52 _ _).ow, by simp, r1⟩
    have HO := Lib.hid (show okC n xs = true by unfold okC; rw [hE, decide_eq_true (by omega)]; rfl)
    have HR := Lib.hid (show chooseR n xs = accR (chooseP n xs) xs xs.length by unfold chooseR; rw [HO.out]; rfl)
    have HE := Lib.hid hE
    clear hE
    go_wp2_with fail
    go_loopw [6, 7] (fun cp i wr => ∃ (k : Nat) (F : List Nat), k ≤ xs.length ∧ i = .int .i64 k ∧ RowKit.Hid (kMt.OwB 52 wr cp (accR (chooseP n xs) xs k) F) ∧ RowKit.Hid (∀ y ∈ F, w.heap.size ≤ y) ∧ RowKit.Hid (Below w.heap.size w wr)) (fun _ i _ => xs.length - (intOf i).toNat)
    case atStart => exact ⟨0, [], Nat.zero_le _, rfl, Lib.hid (Kd.OwB.nil kMt _ _ _), Lib.hid (by simp), Lib.hid r1⟩
    case round =>
      obtain ⟨k, F, hk, rfl, HA, HF, HB⟩ := hrel
      have hsz := HB.out.size
      by_cases hlt : k < xs.length
      · have hkl : (k : Int) < (xs.length : Int) := by omega
        go_wp2_with fail
        refine (l9Keeps_any xs _ k n B wr (HV.out.to (HB.out.mono hB) (Nat.le_refl _)) (by omega) (by omega) hlt HE.out).mono ?_
        rintro en w2 ⟨rfl, hb2⟩
        have HB2 := Lib.hid (HB.out.trans (hb2.mono hsz))
        have HA2 := Lib.hid (HA.out.below hb2)
        clear hb2
        obtain ⟨b, off, q, d, q', d', r, e, rfl, hb, c0, c1, c2, hin⟩ := kMt_get (HV.out.to (HB2.out.mono hB) (Nat.le_refl _)) hlt
        have hsize := sumMt_get xs k hlt
        have hp := chooseP_at (way := n) hlt
        have hyes := fun (h : chooseP n xs k = true) (w' : World) (v' : Value) (F' : List Nat) (ho : kMt.OwB 52 w' v' (accR (chooseP n xs) xs k ++ [xs[k]]) F') => (accR_yes hlt h ▸ ho : kMt.OwB 52 w' v' (accR (chooseP n xs) xs (k + 1)) F')
        have hno := fun (h : chooseP n xs k = false) (w' : World) (v' : Value) (F' : List Nat) (ho : kMt.OwB 52 w' v' (accR (chooseP n xs) xs k) F') => (accR_no hlt h ▸ ho : kMt.OwB 52 w' v' (accR (chooseP n xs) xs (k + 1)) F')
        have HLE := Lib.hid (show (accR (chooseP n xs) xs k).length ≤ 1048576 from Nat.le_trans (accR_len _ _ _) (by omega))
        obtain ⟨x, ex⟩ : ∃ x, x = xs[k] := ⟨_, rfl⟩
        rw [← ex] at c0 c1 c2 hin hsize hyes hp ⊢
        obtain ⟨t, et⟩ : ∃ t : Bool, t = keepB n xs k x := ⟨_, rfl⟩
        rw [← et] at hp ⊢
        have HIN := Lib.hid hin
        have HYES := Lib.hid hyes
        have HNO := Lib.hid hno
        have HP := Lib.hid hp
        have hnx : x.need ≤ 1048576 := by omega
        clear ex et hin hsize hyes hno hp
        cases t with
        | true =>
          have HY := Lib.hid (HYES.out HP.out)
          go_wp2_with fail
          refine (l9Copy_any x _ B w2 HIN.out (by have := HB2.out.size; omega) hnx).mono ?_
          rintro en w3 ⟨v2, G, rfl, ho, hG, hb2⟩
          obtain ⟨pA, cA, qA, dA, pB, cB, rfl⟩ := ho.at.form
          obtain ⟨W2, eW2⟩ : ∃ W2, W2 = w3.alloc (.cells #[.slice pA x.w.ns.length cA, .slice qA x.w.es.length dA, .slice pB x.bs.length cB] 52) := ⟨_, rfl⟩
          have kW2 : Below w3.heap.size w3 W2 := by rw [eW2]; exact (Below.refl _ _).alloc (Nat.le_refl _) _
          have s2 := hb2.size
          have HAP := Lib.hid (appMatch (HA2.out.below (hb2.trans (kW2.mono s2))) 57 x pA cA qA dA pB cB G w3.heap.size 1 (ho.chg (Chg.of_below kW2 []) (by simp)) (fun z hz hz2 => by have := HA2.out.lt z hz; have := hG z hz2; omega) (by rw [eW2]; simp [go_sem]) (by rw [eW2]; simp [go_sem]) (by rw [eW2]; simp [go_sem]) HLE.out)
          have HG := Lib.hid hG
          have HB3 := Lib.hid (hb2.trans (kW2.mono s2))
          have hs1 : w.heap.size ≤ w2.heap.size := HB2.out.size
          have EW2 := Lib.hid eW2
          clear ho hG hb2 kW2 eW2
          go_wp2_with (at_builtin; rw [← EW2.out]; refine wpApp rfl (.tmp 31) (.tmp 37) 57 rfl _ _ rfl rfl _ HAP.out ?_; rintro v3 w4 hr; have HR9 := Lib.hid hr; clear hr)
          obtain ⟨F', hF1, hF2, hF3⟩ := HR9.out
          have hge := ge_app hs1 HB3.out hF2 HF.out HG.out
          have hbe := below_app HB2.out HB3.out hF3 HF.out
          go_roundw
          case rel => exact ⟨k + 1, F', by omega, by go_num, Lib.hid (HY.out _ _ _ hF1), Lib.hid hge, Lib.hid hbe⟩
          case measure => simp [intOf]; omega
        | false =>
          have HN := Lib.hid (HNO.out HP.out _ _ _ HA2.out)
          go_wp2_with fail
          go_roundw
          case rel => exact ⟨k + 1, F, by omega, by go_num, HN, HF, HB2⟩
          case measure => simp [intOf]; omega
      · obtain rfl : k = xs.length := by omega
        have hkl : ¬ (xs.length : Int) < (xs.length : Int) := by omega
        have HO2 := Lib.hid HA.out.ow
        go_wp2_with fail
        refine bodyPost_ret (v := .tuple #[u6, .bool true]) (by simp [results, Try.results27, go_sem]) rfl ?_
        exact ⟨_, F, by rw [HO.out], by rw [HR.out]; exact HO2.out, HF.out, HB.out⟩
end Go.Proofs.Ytggpnnoldjpmcaa
