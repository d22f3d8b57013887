/- Lemmas on the data and the memory of this program's values: several texts in one. -/
import Derived.Test.YtggpnnoldjpmcaaM3q0p1
import Derived.Test.YtggpnnoldjpmcaaM0q0p1
namespace Go.Proofs.Ytggpnnoldjpmcaa
open Go.RowKit

def lenE (m : Mt) : Nat := m.w.es.length
theorem lenE_le {m : Mt} (h : shP m = true) : lenE m ≤ 8 := (wkShape_iff.1 h).2
/-- Which numbers of edges, less than one, matches with these ends have. -/
def lesL (xs : List Mt) (Y : Int × Int) (own : Nat) : List Nat := (List.range 9).filter fun n => decide (n < own) && xs.any fun x => decide (endP x = Y) && decide (lenE x = n)
def lesN (xs : List Mt) (Y : Int × Int) (own : Nat) : Nat := (lesL xs Y own).length
theorem lesL_mem {xs : List Mt} (hs : xs.all shP = true) {Y : Int × Int} {own n : Nat} : n ∈ lesL xs Y own ↔ n < own ∧ ∃ x ∈ xs, endP x = Y ∧ lenE x = n := by
  unfold lesL
  simp only [List.mem_filter, List.mem_range, Bool.and_eq_true, decide_eq_true_eq, List.any_eq_true]
  constructor
  · rintro ⟨_, h⟩; exact h
  · rintro ⟨h, x, hx, h1, h2⟩
    exact ⟨by have := lenE_le (List.all_eq_true.1 hs x hx); omega, h, x, hx, h1, h2⟩
theorem lesL_nodup (xs : List Mt) (Y : Int × Int) (own : Nat) : (lesL xs Y own).Nodup := List.nodup_range.filter _
theorem lesN_le (xs : List Mt) (Y : Int × Int) (own : Nat) : lesN xs Y own ≤ 9 := by
  unfold lesN lesL; exact Nat.le_trans (List.length_filter_le _ _) (by simp)
theorem nodup_len {α : Type} [DecidableEq α] {l m : List α} (hl : l.Nodup) (hm : m.Nodup) (h : ∀ a, a ∈ l ↔ a ∈ m) : l.length = m.length :=
  ((List.perm_ext_iff_of_nodup hl hm).2 h).length_eq
/-- As the model collects them. -/
def seenL (xs : List Mt) (Y : Int × Int) (own : Nat) : Nat → List Int
  | 0 => []
  | k + 1 => seenL xs Y own k ++ (match xs[k]? with
    | some x => if lenE x < own ∧ endP x = Y ∧ (lenE x : Int) ∉ seenL xs Y own k then [(lenE x : Int)] else []
    | none => [])
theorem seenL_yes {xs : List Mt} {Y : Int × Int} {own k : Nat} (hk : k < xs.length) (h1 : lenE xs[k] < own) (h2 : endP xs[k] = Y) (h3 : (lenE xs[k] : Int) ∉ seenL xs Y own k) : seenL xs Y own (k + 1) = seenL xs Y own k ++ [(lenE xs[k] : Int)] := by
  rw [seenL, List.getElem?_eq_getElem hk]; simp only; rw [if_pos ⟨h1, h2, h3⟩]
theorem seenL_no {xs : List Mt} {Y : Int × Int} {own k : Nat} (hk : k < xs.length) (h : ¬ (lenE xs[k] < own ∧ endP xs[k] = Y ∧ (lenE xs[k] : Int) ∉ seenL xs Y own k)) : seenL xs Y own (k + 1) = seenL xs Y own k := by
  rw [seenL, List.getElem?_eq_getElem hk]; simp only; rw [if_neg h, List.append_nil]
theorem seenL_mem {xs : List Mt} {Y : Int × Int} {own : Nat} (n : Int) : ∀ k, k ≤ xs.length → (n ∈ seenL xs Y own k ↔ ∃ x ∈ xs.take k, lenE x < own ∧ endP x = Y ∧ (lenE x : Int) = n)
  | 0, _ => by simp [seenL]
  | k + 1, hk => by
    have hlt : k < xs.length := by omega
    have ih := seenL_mem (xs := xs) (Y := Y) (own := own) n k (by omega)
    rw [List.take_succ_eq_append_getElem hlt]
    have hex : (∃ x ∈ xs.take k ++ [xs[k]], lenE x < own ∧ endP x = Y ∧ (lenE x : Int) = n) ↔ (∃ x ∈ xs.take k, lenE x < own ∧ endP x = Y ∧ (lenE x : Int) = n) ∨ (lenE xs[k] < own ∧ endP xs[k] = Y ∧ (lenE xs[k] : Int) = n) := by
      constructor
      · rintro ⟨x, hx, h⟩
        rcases List.mem_append.1 hx with hx | hx
        · exact .inl ⟨x, hx, h⟩
        · rw [List.mem_singleton] at hx; subst hx; exact .inr h
      · rintro (⟨x, hx, h⟩ | h)
        · exact ⟨x, List.mem_append_left _ hx, h⟩
        · exact ⟨_, List.mem_append_right _ (by simp), h⟩
    rw [hex, ← ih]
    by_cases hc : lenE xs[k] < own ∧ endP xs[k] = Y ∧ (lenE xs[k] : Int) ∉ seenL xs Y own k
    · rw [seenL_yes hlt hc.1 hc.2.1 hc.2.2, List.mem_append, List.mem_singleton]
      constructor
      · rintro (h | h)
        · exact .inl h
        · exact .inr ⟨hc.1, hc.2.1, h.symm⟩
      · rintro (h | ⟨_, _, h⟩)
        · exact .inl h
        · exact .inr h.symm
    · rw [seenL_no hlt hc]
      constructor
      · exact .inl
      · rintro (h | ⟨h1, h2, h3⟩)
        · exact h
        · by_cases hm : (lenE xs[k] : Int) ∈ seenL xs Y own k
          · rw [← h3]; exact hm
          · exact absurd ⟨h1, h2, hm⟩ hc
theorem seenL_nodup (xs : List Mt) (Y : Int × Int) (own : Nat) : ∀ k, (seenL xs Y own k).Nodup
  | 0 => by simp [seenL]
  | k + 1 => by
    have ih := seenL_nodup xs Y own k
    by_cases hk : k < xs.length
    · by_cases hc : lenE xs[k] < own ∧ endP xs[k] = Y ∧ (lenE xs[k] : Int) ∉ seenL xs Y own k
      · rw [seenL_yes hk hc.1 hc.2.1 hc.2.2]
        refine List.nodup_append.2 ⟨ih, by simp, fun a ha b hb e => ?_⟩
        rw [List.mem_singleton] at hb
        subst hb; subst e; exact hc.2.2 ha
      · rw [seenL_no hk hc]; exact ih
    · rw [seenL, List.getElem?_eq_none (by omega)]; simpa using ih
theorem seenL_len_le (xs : List Mt) (Y : Int × Int) (own : Nat) : ∀ k, (seenL xs Y own k).length ≤ k
  | 0 => by simp [seenL]
  | k + 1 => by
    have ih := seenL_len_le xs Y own k
    rw [seenL, List.length_append]
    split
    · split <;> simp <;> omega
    · simp; omega
theorem seenL_len {xs : List Mt} (hs : xs.all shP = true) (Y : Int × Int) (own : Nat) : (seenL xs Y own xs.length).length = lesN xs Y own := by
  have h : ((lesL xs Y own).map fun n : Nat => (n : Int)).length = lesN xs Y own := by rw [List.length_map]; rfl
  rw [← h]
  refine nodup_len (seenL_nodup xs Y own _) ?_ fun a => ?_
  · rw [List.nodup_iff_pairwise_ne, List.pairwise_map]
    exact (List.nodup_iff_pairwise_ne.1 (lesL_nodup xs Y own)).imp fun hab e => hab (by omega)
  · rw [seenL_mem a _ (Nat.le_refl _), List.take_length, List.mem_map]
    constructor
    · rintro ⟨x, hx, h1, h2, h3⟩; exact ⟨lenE x, (lesL_mem hs).2 ⟨h1, x, hx, h2, rfl⟩, h3⟩
    · rintro ⟨n, hn, rfl⟩
      obtain ⟨h1, x, hx, h2, rfl⟩ := (lesL_mem hs).1 hn
      exact ⟨x, hx, h1, h2, rfl⟩
/-- As the program collects them: a bit for each. -/
def maskN (xs : List Mt) (Y : Int × Int) : Nat → Nat
  | 0 => 0
  | k + 1 => maskN xs Y k ||| (match xs[k]? with
    | some x => if endP x = Y then 2 ^ lenE x else 0
    | none => 0)
theorem maskN_yes {xs : List Mt} {Y : Int × Int} {k : Nat} (hk : k < xs.length) (h : endP xs[k] = Y) : maskN xs Y (k + 1) = maskN xs Y k ||| 2 ^ lenE xs[k] := by
  rw [maskN, List.getElem?_eq_getElem hk]; simp only; rw [if_pos h]
theorem maskN_no {xs : List Mt} {Y : Int × Int} {k : Nat} (hk : k < xs.length) (h : endP xs[k] ≠ Y) : maskN xs Y (k + 1) = maskN xs Y k := by
  rw [maskN, List.getElem?_eq_getElem hk]; simp only; rw [if_neg h]; simp
theorem maskN_bit {xs : List Mt} {Y : Int × Int} (i : Nat) : ∀ k, k ≤ xs.length → ((maskN xs Y k).testBit i = true ↔ ∃ x ∈ xs.take k, endP x = Y ∧ lenE x = i)
  | 0, _ => by simp [maskN]
  | k + 1, hk => by
    have hlt : k < xs.length := by omega
    have ih := maskN_bit (xs := xs) (Y := Y) i k (by omega)
    rw [List.take_succ_eq_append_getElem hlt]
    have hex : (∃ x ∈ xs.take k ++ [xs[k]], endP x = Y ∧ lenE x = i) ↔ (∃ x ∈ xs.take k, endP x = Y ∧ lenE x = i) ∨ (endP xs[k] = Y ∧ lenE xs[k] = i) := by
      constructor
      · rintro ⟨x, hx, h⟩
        rcases List.mem_append.1 hx with hx | hx
        · exact .inl ⟨x, hx, h⟩
        · rw [List.mem_singleton] at hx; subst hx; exact .inr h
      · rintro (⟨x, hx, h⟩ | h)
        · exact ⟨x, List.mem_append_left _ hx, h⟩
        · exact ⟨_, List.mem_append_right _ (by simp), h⟩
    rw [hex, ← ih]
    by_cases hc : endP xs[k] = Y
    · rw [maskN_yes hlt hc, Nat.testBit_or, Bool.or_eq_true, Nat.testBit_two_pow, decide_eq_true_eq]
      simp [hc]
    · rw [maskN_no hlt hc]; simp [hc]
theorem maskN_lt {xs : List Mt} (hs : xs.all shP = true) (Y : Int × Int) : ∀ k, maskN xs Y k < 512
  | 0 => by simp [maskN]
  | k + 1 => by
    have ih := maskN_lt hs Y k
    rw [maskN]
    refine Nat.or_lt_two_pow (n := 9) ih ?_
    split
    · rename_i x hx
      have := lenE_le (List.all_eq_true.1 hs x (List.mem_of_getElem? hx))
      split
      · exact Nat.pow_lt_pow_right (by omega) (by omega)
      · omega
    · omega
/-- As many as bits are set, of nine. -/
def pc9 (m : Nat) : Nat := ((List.range 9).filter fun i => m.testBit i).length
theorem mask_pc (xs : List Mt) (Y : Int × Int) (own : Nat) : pc9 (maskN xs Y xs.length &&& (2 ^ own - 1)) = lesN xs Y own := by
  unfold pc9 lesN lesL
  congr 1
  refine List.filter_congr fun i _ => ?_
  rw [Nat.testBit_and, Nat.testBit_two_pow_sub_one, Bool.and_comm]
  congr 1
  have h := maskN_bit (xs := xs) (Y := Y) i xs.length (Nat.le_refl _)
  rw [List.take_length] at h
  rw [Bool.eq_iff_iff, h]
  simp
/-- The matches of a group. -/
def groupP (n : Int) (xs : List Mt) (k : Nat) : Bool := match xs[k]? with
  | none => false
  | some x => decide ((lesN xs (endP x) (lenE x) : Int) < n)
theorem groupP_at {n : Int} {xs : List Mt} {k : Nat} (hk : k < xs.length) : groupP n xs k = decide ((lesN xs (endP xs[k]) (lenE xs[k]) : Int) < n) := by
  unfold groupP; rw [List.getElem?_eq_getElem hk]
def groupR (n : Int) (xs : List Mt) : List Mt := if okF n xs = true then accR (groupP n xs) xs xs.length else []
theorem groupR_small (n : Int) (xs : List Mt) : (groupR n xs).length + sumMt (groupR n xs) ≤ xs.length + sumMt xs := by
  unfold groupR
  split
  · have h := accR_small (groupP n xs) xs xs.length
    rw [List.take_length] at h; omega
  · simp [sumMt]
end Go.Proofs.Ytggpnnoldjpmcaa
namespace Go.Proofs.Ytggpnnoldjpmcaa
open Go.RowKit

theorem ret_i64 {a b : Int} (h : a = b) : Ending.returned (.int .i64 a) = Ending.returned (.int .i64 b) := by rw [h]
set_option maxRecDepth 100000 in
set_option maxHeartbeats 1000000 in
theorem onesCount64_any (m : Nat) (hm : m < 512) (w : World) :
    Calls Try.prog 114 #[.int .u64 (m : Int)] w fun en w' => en = .returned (.int .i64 (pc9 m : Int)) ∧ w' = w := by
  go_enter Try.func114, Try.ntmps114
  go_wp2_with fail
  go_ret
  refine ⟨ret_i64 ?_, rfl⟩
  clear w
  revert m
  decide +kernel

set_option maxRecDepth 100000 in
set_option maxHeartbeats 1000000 in
theorem onesCount_any (m : Nat) (hm : m < 512) (w : World) :
    Calls Try.prog 82 #[.int .u64 (m : Int)] w fun en w' => en = .returned (.int .i64 (pc9 m : Int)) ∧ w' = w := by
  go_enter Try.func82, Try.ntmps82
  go_wp2_with fail
  refine (onesCount64_any m hm w).mono ?_
  rintro en w1 ⟨rfl, rfl⟩
  go_wp2_with fail
  go_ret
  exact ⟨rfl, rfl⟩
end Go.Proofs.Ytggpnnoldjpmcaa
namespace Go.Proofs.Ytggpnnoldjpmcaa
open Go.RowKit

def mskV (xs : List Mt) (k : Nat) : Int × Int → Value := fun y => .int .u64 (maskN xs y k : Int)
def endS (xs : List Mt) (k : Nat) : List (Int × Int) := ((xs.take k).map endP).reverse
theorem endS_succ {xs : List Mt} {k : Nat} (hk : k < xs.length) : endS xs (k + 1) = endP xs[k] :: endS xs k := by
  unfold endS; rw [List.take_succ_eq_append_getElem hk, List.map_append, List.reverse_append]; rfl
theorem endS_mem {xs : List Mt} {k : Nat} {y : Int × Int} : y ∈ endS xs k ↔ ∃ x ∈ xs.take k, endP x = y := by unfold endS; rw [List.mem_reverse, List.mem_map]
theorem maskN_out {xs : List Mt} {k : Nat} (hk : k ≤ xs.length) {y : Int × Int} (h : y ∉ endS xs k) : maskN xs y k = 0 := by
  refine Nat.eq_of_testBit_eq fun i => ?_
  rw [Nat.zero_testBit, Bool.eq_false_iff]
  intro hb
  obtain ⟨x, hx, h1, _⟩ := (maskN_bit i k hk).1 hb
  exact h (endS_mem.2 ⟨x, hx, h1⟩)
theorem atM_msk {xs : List Mt} {k : Nat} (hk : k ≤ xs.length) (y : Int × Int) : atM (endS xs k) (mskV xs k) (.int .u64 0) y = .int .u64 (maskN xs y k : Int) := by
  unfold atM mskV
  split
  · rfl
  · rename_i h; rw [maskN_out hk h]; rfl
theorem msk_step {w : World} {b : Nat} {xs : List Mt} {k : Nat} (hk : k < xs.length) {z : Value} (h : IMap w b (endP xs[k] :: endS xs k) (updM (updM (mskV xs k) (endP xs[k]) z) (endP xs[k]) (.int .u64 ((maskN xs (endP xs[k]) k ||| 2 ^ lenE xs[k] : Nat) : Int)))) : IMap w b (endS xs (k + 1)) (mskV xs (k + 1)) := by
  rw [endS_succ hk]
  refine h.congr fun y hy => ?_
  unfold updM mskV
  by_cases e : y = endP xs[k]
  · subst e; rw [if_pos rfl, maskN_yes hk rfl]
  · rw [if_neg e, if_neg e, maskN_no hk (fun h => e h.symm)]
/-- A match of the groups that are wanted. -/
def grpP (n : Int) (xs : List Mt) (m : Mt) : Bool := decide ((lesN xs (endP m) (lenE m) : Int) < n)
theorem accR_filter {p : Nat → Bool} {f : Mt → Bool} {xs : List Mt} (h : ∀ (j : Nat) (hj : j < xs.length), p j = f xs[j]) : ∀ k, k ≤ xs.length → accR p xs k = (xs.take k).filter f
  | 0, _ => by simp [accR]
  | k + 1, hk => by
    have hlt : k < xs.length := by omega
    have ih := accR_filter h k (by omega)
    cases hp : p k with
    | true => rw [accR_yes hlt hp, filter_yes hlt ((h k hlt).symm.trans hp), ih]
    | false => rw [accR_no hlt hp, filter_no hlt ((h k hlt).symm.trans hp), ih]
theorem groupR_filter {n : Int} {xs : List Mt} (h : okF n xs = true) : groupR n xs = xs.filter (grpP n xs) := by
  unfold groupR
  rw [if_pos h, accR_filter (f := grpP n xs) (fun j hj => groupP_at hj) _ (Nat.le_refl _), List.take_length]
theorem endP_ok2 {m : Mt} (h : m.Ok) (hp : 0 < m.w.ns.length) : Pairs64 (endP m) := by
  rw [endP_at hp]
  exact ⟨h.1.1 _ (List.getElem_mem _), h.1.1 _ (List.getElem_mem _)⟩
theorem or9 : ∀ m : Nat, m < 512 → ∀ l : Nat, l < 9 → bits BinOp.or IntKind.u64 (m : Int) (IntKind.u64.wrap (2 ^ l)) = ((m ||| 2 ^ l : Nat) : Int) := by decide +kernel
theorem and9 : ∀ m : Nat, m < 512 → ∀ l : Nat, l < 9 → bits BinOp.and IntKind.u64 (m : Int) (IntKind.u64.wrap (IntKind.u64.wrap (2 ^ l) - 1)) = ((m &&& (2 ^ l - 1) : Nat) : Int) := by decide +kernel

set_option maxRecDepth 100000 in
set_option maxHeartbeats 4000000 in
theorem groupFn_any (m : Mt) (v : Value) (n : Int) (c1 c2 b : Nat) (xs : List Mt) (B : Nat) (w : World) (hm : m.w.At B w v) (hB : B ≤ w.heap.size) (hs : shP m = true) (hall : xs.all shP = true) (hok : Pairs64 (endP m)) (hc1 : w.cell? ⟨c1, 0, none⟩ = some (.map (some b))) (hc2 : w.cell? ⟨c2, 0, none⟩ = some (.int .i64 n))
    (hM : IMap w b (endS xs xs.length) (mskV xs xs.length)) :
    Calls Try.prog 81 #[v, .pointer (some ⟨c1, 0, none⟩), .pointer (some ⟨c2, 0, none⟩)] w fun en w' => en = .returned (.bool (grpP n xs m)) ∧ Below w.heap.size w w' := by
  have hl1 := World.block_lt_of_cell? w _ hc1
  have hl2 := World.block_lt_of_cell? w _ hc2
  have HMA := Lib.hid hm
  have hle := lenE_le hs
  have hml := maskN_lt hall (endP m) xs.length
  have hpc := mask_pc xs (endP m) (lenE m)
  obtain ⟨a1, a2, rfl, ha, hb⟩ := hm
  obtain ⟨q, d, rfl⟩ := ha.form
  obtain ⟨q', d', rfl⟩ := hb.form
  have HT := Lib.hid (show Try.prog.underlying 110 = some (.map 113 111) from Try.underlying110)
  have HZ := Lib.hid (show ∀ w, (zeroValue 111).run Try.prog w = .ok (.int .u64 0) w from fun w => by kernel_rfl)
  obtain ⟨W, eW⟩ : ∃ W, W = w.alloc (.cells #[.slice q m.w.ns.length d, .slice q' (lenE m) d'] 50) := ⟨_, rfl⟩
  have kW := Lib.hid (show Below w.heap.size w W by rw [eW]; exact (Below.refl _ _).alloc (Nat.le_refl _) _)
  have sW : w.heap.size < W.heap.size := by rw [eW]; simp
  have HKC := Lib.hid (fun (E : World) (hE : Below W.heap.size W E) => (⟨⟨keepc hE sW (by rw [eW]; simp [go_sem]), keepc hE sW (by rw [eW]; simp [go_sem])⟩, keepc (kW.out.trans (hE.mono (by omega))) hl1 hc1, keepc (kW.out.trans (hE.mono (by omega))) hl2 hc2⟩ : (E.cell? ⟨w.heap.size, 0, none⟩ = some (.slice q m.w.ns.length d) ∧ E.cell? ⟨w.heap.size, 1, none⟩ = some (.slice q' (lenE m) d')) ∧ E.cell? ⟨c1, 0, none⟩ = some (.map (some b)) ∧ E.cell? ⟨c2, 0, none⟩ = some (.int .i64 n)))
  have HIW := Lib.hid (fun (E : World) (hE : Below W.heap.size W E) => hM.chg (G := []) (Chg.of_below (kW.out.trans (hE.mono (by omega))) []) (by simp))
  have HGP := Lib.hid (show grpP n xs m = decide ((lesN xs (endP m) (lenE m) : Int) < n) from rfl)
  obtain ⟨Y, eY⟩ : ∃ Y, Y = endP m := ⟨_, rfl⟩
  have CE := Lib.hid (fun (E : World) (hE : Below W.heap.size W E) => (by rw [eY]; exact endsOf_any m (.agg #[.slice q m.w.ns.length d, .slice q' (lenE m) d']) B E (HMA.out.to ((kW.out.trans (hE.mono (by omega))).mono hB) (Nat.le_refl _)) (by have := hE.size; omega) hs : Calls Try.prog 79 #[.agg #[.slice q m.w.ns.length d, .slice q' (lenE m) d']] E (fun en w' => en = .returned (endV Y) ∧ Below E.heap.size E w')))
  rw [← eY] at hok hml hpc HGP
  rw [HGP.out]
  have HP := Lib.hid hok
  obtain ⟨M, eM⟩ : ∃ M, M = maskN xs Y xs.length := ⟨_, rfl⟩
  have HLK := Lib.hid (fun (E : World) (hE : Below W.heap.size W E) => (by have h := run_lookupI HT.out HZ.out (HIW.out E hE) HP.out; rw [atM_msk (Nat.le_refl _), ← eM] at h; exact h : (Instr.lookup 110 (.map (some b)) (endV Y) false).run Try.prog E = .ok (.int .u64 (M : Int)) E))
  rw [← eM] at hml hpc
  have el : m.w.es.length = lenE m := rfl
  have hlE : lenE m < 9 := by omega
  have hle' : (lenE m : Int) ≤ 8 := by omega
  have hle0 : (0 : Int) ≤ (lenE m : Int) := by omega
  have HAND := Lib.hid (and9 M hml (lenE m) hlE)
  have hms : M &&& (2 ^ lenE m - 1) < 512 := Nat.lt_of_le_of_lt Nat.and_le_left hml
  have CO := Lib.hid (fun (E : World) (hE : Below W.heap.size W E) => ((by have h := onesCount_any _ hms E; rw [hpc, ← HAND.out] at h; exact h.mono (fun en w' h2 => ⟨h2.1, h2.2 ▸ hE⟩)) : Calls Try.prog 82 #[.int .u64 (bits BinOp.and IntKind.u64 (M : Int) (IntKind.u64.wrap (IntKind.u64.wrap (2 ^ lenE m) - 1)))] E (fun en w' => en = .returned (.int .i64 (lesN xs Y (lenE m) : Int)) ∧ Below W.heap.size W w')))
  have EW := Lib.hid eW
  have r0 : Below W.heap.size W W := Below.refl _ _
  clear eW hc1 hc2 hM ha hb hs hok eY hall eM
  rw [el]
  go_enter Try.func81, Try.ntmps81
  go_upto_region 1 with fail
  rw [← EW.out]
  refine wp_region_held_drew (S := fun w' => (w'.cell? ⟨w.heap.size, 0, none⟩ = some (.slice q m.w.ns.length d) ∧ w'.cell? ⟨w.heap.size, 1, none⟩ = some (.slice q' (lenE m) d')) ∧ w'.cell? ⟨c1, 0, none⟩ = some (.map (some b)) ∧ w'.cell? ⟨c2, 0, none⟩ = some (.int .i64 n)) (by kernel_rfl) ?_ (fun hHeld => ?_)
  · exact HKC.out _ (show Below W.heap.size W _ by ((repeat (first | with_reducible assumption | with_reducible exact Below.refl _ _ | refine Below.setCell ?_ (by (first | omega | (simp; omega) | (simp; done) | fail "sml")) _ | refine Below.drew ?_ | refine Below.alloc ?_ (by (first | omega | (simp; omega) | (simp; done) | fail "sml")) _)); first | done | fail "chs"))
  (refine takeL (i := 0) (v := ?_) rfl (by kernel_rfl) (by kernel_rfl) (by kernel_rfl) (fun _ _ _ h => h) (Or.inl ⟨by kernel_rfl, ?_⟩) (by assumption) ?_; rotate_left; (focus (intro w hSw; (try dsimp only at hSw); go_simp; first | done | with_reducible rfl | fail "take")); (try simp only [Act.put, List.setIfInBounds_toArray, List.set_cons_zero, List.set_cons_succ]))
  (refine takeL (i := 1) (v := ?_) rfl (by kernel_rfl) (by kernel_rfl) (by kernel_rfl) (fun _ _ _ h => h) (Or.inl ⟨by kernel_rfl, ?_⟩) (by assumption) ?_; rotate_left; (focus (intro w hSw; (try dsimp only at hSw); go_simp; first | done | with_reducible rfl | fail "take")); (try simp only [Act.put, List.setIfInBounds_toArray, List.set_cons_zero, List.set_cons_succ]))
  (refine takeL (i := 4) (v := ?_) rfl (by kernel_rfl) (by kernel_rfl) (by kernel_rfl) (fun _ _ _ h => h) (Or.inl ⟨by kernel_rfl, ?_⟩) (by assumption) ?_; rotate_left; (focus (intro w hSw; (try dsimp only at hSw); go_simp; first | done | with_reducible rfl | fail "take")); (try simp only [Act.put, List.setIfInBounds_toArray, List.set_cons_zero, List.set_cons_succ]))
  (refine takeL (i := 5) (v := ?_) rfl (by kernel_rfl) (by kernel_rfl) (by kernel_rfl) (fun _ _ _ h => h) (Or.inl ⟨by kernel_rfl, ?_⟩) (by assumption) ?_; rotate_left; (focus (intro w hSw; (try dsimp only at hSw); go_simp; first | done | with_reducible rfl | fail "take")); (try simp only [Act.put, List.setIfInBounds_toArray, List.set_cons_zero, List.set_cons_succ]))
  (refine takeL (i := 6) (v := ?_) rfl (by kernel_rfl) (by kernel_rfl) (by kernel_rfl) (fun _ _ _ h => h) (Or.inl ⟨by kernel_rfl, ?_⟩) (by assumption) ?_; rotate_left; (focus (intro w hSw; (try dsimp only at hSw); go_simp; first | done | with_reducible rfl | fail "take")); (try simp only [Act.put, List.setIfInBounds_toArray, List.set_cons_zero, List.set_cons_succ]))
  (refine takeL (i := 7) (v := ?_) rfl (by kernel_rfl) (by kernel_rfl) (by kernel_rfl) (fun _ _ _ h => h) (Or.inl ⟨by kernel_rfl, ?_⟩) (by assumption) ?_; rotate_left; (focus (intro w hSw; (try dsimp only at hSw); go_simp; first | done | with_reducible rfl | fail "take")); (try simp only [Act.put, List.setIfInBounds_toArray, List.set_cons_zero, List.set_cons_succ]))
  (refine takeL (i := 8) (v := ?_) rfl (by kernel_rfl) (by kernel_rfl) (by kernel_rfl) (fun _ _ _ h => h) (Or.inl ⟨by kernel_rfl, ?_⟩) (by assumption) ?_; rotate_left; (focus (intro w hSw; (try dsimp only at hSw); go_simp; first | done | with_reducible rfl | fail "take")); (try simp only [Act.put, List.setIfInBounds_toArray, List.set_cons_zero, List.set_cons_succ]))
  (refine callL (i := 2) rfl (by kernel_rfl) (by kernel_rfl) (fun K hK => ?_); go_simp)
  go_at_call 79
  refine Calls.mono (CE.out _ (show Below W.heap.size W _ by ((repeat (first | with_reducible assumption | with_reducible exact Below.refl _ _ | refine Below.setCell ?_ (by (first | omega | (simp; omega) | (simp; done) | fail "sml")) _ | refine Below.drew ?_ | refine Below.alloc ?_ (by (first | omega | (simp; omega) | (simp; done) | fail "sml")) _)); first | done | fail "chs"))) ?_
  rintro en wa ⟨rfl, hb⟩
  have kwa : Below W.heap.size W wa := Below.trans (show Below W.heap.size W _ by ((repeat (first | with_reducible assumption | with_reducible exact Below.refl _ _ | refine Below.setCell ?_ (by (first | omega | (simp; omega) | (simp; done) | fail "sml")) _ | refine Below.drew ?_ | refine Below.alloc ?_ (by (first | omega | (simp; omega) | (simp; done) | fail "sml")) _)); first | done | fail "chs")) (hb.mono (by (first | omega | (simp; omega) | (simp; done) | fail "sml")))
  clear hb
  go_wp2_with fail
  refine hK.out _ _ (HKC.out _ (show Below W.heap.size W _ by ((repeat (first | with_reducible assumption | with_reducible exact Below.refl _ _ | refine Below.setCell ?_ (by (first | omega | (simp; omega) | (simp; done) | fail "sml")) _ | refine Below.drew ?_ | refine Below.alloc ?_ (by (first | omega | (simp; omega) | (simp; done) | fail "sml")) _)); first | done | fail "chs"))) (fun hHeld => ?_)
  clear hK K
  (try simp only [Act.put, List.setIfInBounds_toArray, List.set_cons_zero, List.set_cons_succ])
  refine callL (i := 3) rfl (by kernel_rfl) (by kernel_rfl) (fun K hK => ?_)
  refine opwp_lookup rfl rfl rfl (HLK.out _ (show Below W.heap.size W _ by ((repeat (first | with_reducible assumption | with_reducible exact Below.refl _ _ | refine Below.setCell ?_ (by (first | omega | (simp; omega) | (simp; done) | fail "sml")) _ | refine Below.drew ?_ | refine Below.alloc ?_ (by (first | omega | (simp; omega) | (simp; done) | fail "sml")) _)); first | done | fail "chs"))) ?_
  refine hK.out _ _ (HKC.out _ (show Below W.heap.size W _ by ((repeat (first | with_reducible assumption | with_reducible exact Below.refl _ _ | refine Below.setCell ?_ (by (first | omega | (simp; omega) | (simp; done) | fail "sml")) _ | refine Below.drew ?_ | refine Below.alloc ?_ (by (first | omega | (simp; omega) | (simp; done) | fail "sml")) _)); first | done | fail "chs"))) (fun hHeld => ?_)
  clear hK K
  (try simp only [Act.put, List.setIfInBounds_toArray, List.set_cons_zero, List.set_cons_succ])
  (refine takeL (i := 9) (v := ?_) rfl (by kernel_rfl) (by kernel_rfl) (by kernel_rfl) (fun _ _ _ h => h) (Or.inl ⟨by kernel_rfl, ?_⟩) (by assumption) ?_; rotate_left; (focus (intro w hSw; (try dsimp only at hSw); go_simp; first | done | with_reducible rfl | fail "take")); (try simp only [Act.put, List.setIfInBounds_toArray, List.set_cons_zero, List.set_cons_succ]))
  (refine takeL (i := 10) (v := ?_) rfl (by kernel_rfl) (by kernel_rfl) (by kernel_rfl) (fun _ _ _ h => h) (Or.inl ⟨by kernel_rfl, ?_⟩) (by assumption) ?_; rotate_left; (focus (intro w hSw; (try dsimp only at hSw); go_simp; first | done | with_reducible rfl | fail "take")); (try simp only [Act.put, List.setIfInBounds_toArray, List.set_cons_zero, List.set_cons_succ]))
  refine wpAnyH_done (by kernel_rfl) ?_ _
  go_wp2_with fail
  refine wp_region_held_drew (S := fun w' => (w'.cell? ⟨w.heap.size, 0, none⟩ = some (.slice q m.w.ns.length d) ∧ w'.cell? ⟨w.heap.size, 1, none⟩ = some (.slice q' (lenE m) d')) ∧ w'.cell? ⟨c1, 0, none⟩ = some (.map (some b)) ∧ w'.cell? ⟨c2, 0, none⟩ = some (.int .i64 n)) (by kernel_rfl) ?_ (fun hHeld => ?_)
  · exact HKC.out _ (show Below W.heap.size W _ by ((repeat (first | with_reducible assumption | with_reducible exact Below.refl _ _ | refine Below.setCell ?_ (by (first | omega | (simp; omega) | (simp; done) | fail "sml")) _ | refine Below.drew ?_ | refine Below.alloc ?_ (by (first | omega | (simp; omega) | (simp; done) | fail "sml")) _)); first | done | fail "chs"))
  (refine takeL (i := 0) (v := ?_) rfl (by kernel_rfl) (by kernel_rfl) (by kernel_rfl) (fun _ _ _ h => h) (Or.inl ⟨by kernel_rfl, ?_⟩) (by assumption) ?_; rotate_left; (focus (intro w hSw; (try dsimp only at hSw); go_simp; first | done | with_reducible rfl | fail "take")); (try simp only [Act.put, List.setIfInBounds_toArray, List.set_cons_zero, List.set_cons_succ]))
  (refine takeL (i := 2) (v := ?_) rfl (by kernel_rfl) (by kernel_rfl) (by kernel_rfl) (fun _ _ _ h => h) (Or.inl ⟨by kernel_rfl, ?_⟩) (by assumption) ?_; rotate_left; (focus (intro w hSw; (try dsimp only at hSw); go_simp; first | done | with_reducible rfl | fail "take")); (try simp only [Act.put, List.setIfInBounds_toArray, List.set_cons_zero, List.set_cons_succ]))
  (refine callL (i := 1) rfl (by kernel_rfl) (by kernel_rfl) (fun K hK => ?_); go_simp)
  go_at_call 82
  refine Calls.mono (CO.out _ (show Below W.heap.size W _ by ((repeat (first | with_reducible assumption | with_reducible exact Below.refl _ _ | refine Below.setCell ?_ (by (first | omega | (simp; omega) | (simp; done) | fail "sml")) _ | refine Below.drew ?_ | refine Below.alloc ?_ (by (first | omega | (simp; omega) | (simp; done) | fail "sml")) _)); first | done | fail "chs"))) ?_
  rintro en wb ⟨rfl, kwb⟩
  go_wp2_with fail
  refine hK.out _ _ (HKC.out _ (show Below W.heap.size W _ by ((repeat (first | with_reducible assumption | with_reducible exact Below.refl _ _ | refine Below.setCell ?_ (by (first | omega | (simp; omega) | (simp; done) | fail "sml")) _ | refine Below.drew ?_ | refine Below.alloc ?_ (by (first | omega | (simp; omega) | (simp; done) | fail "sml")) _)); first | done | fail "chs"))) (fun hHeld => ?_)
  clear hK K
  (try simp only [Act.put, List.setIfInBounds_toArray, List.set_cons_zero, List.set_cons_succ])
  (refine takeL (i := 3) (v := ?_) rfl (by kernel_rfl) (by kernel_rfl) (by kernel_rfl) (fun _ _ _ h => h) (Or.inl ⟨by kernel_rfl, ?_⟩) (by assumption) ?_; rotate_left; (focus (intro w hSw; (try dsimp only at hSw); go_simp; first | done | with_reducible rfl | fail "take")); (try simp only [Act.put, List.setIfInBounds_toArray, List.set_cons_zero, List.set_cons_succ]))
  (refine takeL (i := 4) (v := ?_) rfl (by kernel_rfl) (by kernel_rfl) (by kernel_rfl) (fun _ _ _ h => h) (Or.inl ⟨by kernel_rfl, ?_⟩) (by assumption) ?_; rotate_left; (focus (intro w hSw; (try dsimp only at hSw); go_simp; first | done | with_reducible rfl | fail "take")); (try simp only [Act.put, List.setIfInBounds_toArray, List.set_cons_zero, List.set_cons_succ]))
  refine wpAnyH_done (by kernel_rfl) ?_ _
  go_wp2_with fail
  go_ret
  exact ⟨ret_bool rfl, kW.out.trans (kwb.mono (by omega))⟩
end Go.Proofs.Ytggpnnoldjpmcaa
namespace Go.Proofs.Ytggpnnoldjpmcaa
open Go.RowKit

set_option maxRecDepth 100000 in
set_option maxHeartbeats 4000000 in
theorem pickGroup_any (xs : List Mt) (v : Value) (n : Int) (a1 a2 b0 : Nat) (ys : List Mt) (B : Nat) (w : World) (hv : kMt.Rd B w v xs) (hB : B ≤ w.heap.size) (hn : xs.length + sumMt xs ≤ 1048576) (hsh : xs.all shP = true) (hys : ys.all shP = true) (hok : ∀ x ∈ xs, x.Ok) (hc1 : w.cell? ⟨a1, 0, none⟩ = some (.map (some b0))) (hc2 : w.cell? ⟨a2, 0, none⟩ = some (.int .i64 n)) (hM : IMap w b0 (endS ys ys.length) (mskV ys ys.length)) :
    Calls Try.prog 80 #[v, .func (.func 81) #[] #[.pointer (some ⟨a1, 0, none⟩), .pointer (some ⟨a2, 0, none⟩)]] w fun e w' => ∃ v' F, e = .returned v' ∧ kMt.Ow w' v' (xs.filter (grpP n ys)) F ∧ (∀ y ∈ F, w.heap.size ≤ y) ∧ Below w.heap.size w w' := by
  obtain ⟨p, cap, rfl⟩ := hv.form
  obtain ⟨_, hm1, hm2⟩ := hv.max
  unfold maxLen at hm2
  have HV := Lib.hid hv
  have HSH := Lib.hid (show ∀ z ∈ xs, shP z = true ∧ Pairs64 (endP z) from fun z hz => ⟨List.all_eq_true.1 hsh z hz, endP_ok2 (hok z hz) (shP_pos (List.all_eq_true.1 hsh z hz))⟩)
  have hcl1 := World.block_lt_of_cell? w _ hc1
  have hcl2 := World.block_lt_of_cell? w _ hc2
  have HC := Lib.hid (fun (E : World) (hE : Below w.heap.size w E) => (⟨keepc hE hcl1 hc1, keepc hE hcl2 hc2, hM.chg (G := []) (Chg.of_below hE []) (by simp)⟩ : E.cell? ⟨a1, 0, none⟩ = some (.map (some b0)) ∧ E.cell? ⟨a2, 0, none⟩ = some (.int .i64 n) ∧ IMap E b0 (endS ys ys.length) (mskV ys ys.length)))
  clear hc1 hc2 hM hok
  clear hv hsh
  go_enter Try.func80, Try.ntmps80
  go_wp2_with fail
  go_loopw [5, 10] (fun cp i wr => ∃ (k : Nat) (F : List Nat), k ≤ xs.length ∧ i = .int .i64 k ∧ RowKit.Hid (kMt.OwB 52 wr cp ((xs.take k).filter (grpP n ys)) F) ∧ RowKit.Hid (∀ y ∈ F, w.heap.size ≤ y) ∧ RowKit.Hid (Below w.heap.size w wr)) (fun _ i _ => xs.length - (intOf i).toNat)
  case atStart => exact ⟨0, [], Nat.zero_le _, rfl, Lib.hid (by simpa using Kd.OwB.nil kMt _ _ _), Lib.hid (by simp), Lib.hid (Below.refl _ _)⟩
  case round =>
    obtain ⟨k, F, hk, rfl, HO, HF, HB⟩ := hrel
    have hsz := HB.out.size
    by_cases hlt : k < xs.length
    · obtain ⟨b, off, q, d, q', d', r, e, rfl, hb, c0, c1, c2, hin⟩ := kMt_get (HV.out.to (HB.out.mono hB) (Nat.le_refl _)) hlt
      have hsize := sumMt_get xs k hlt
      have hsx := HSH.out _ (List.getElem_mem hlt)
      have hyes := fun (h : (grpP n ys) xs[k] = true) (w' : World) (v' : Value) (F' : List Nat) (ho : kMt.OwB 52 w' v' ((xs.take k).filter (grpP n ys) ++ [xs[k]]) F') => (filter_yes hlt h ▸ ho : kMt.OwB 52 w' v' ((xs.take (k + 1)).filter (grpP n ys)) F')
      have hno := fun (h : (grpP n ys) xs[k] = false) (w' : World) (v' : Value) (F' : List Nat) (ho : kMt.OwB 52 w' v' ((xs.take k).filter (grpP n ys)) F') => (filter_no hlt h ▸ ho : kMt.OwB 52 w' v' ((xs.take (k + 1)).filter (grpP n ys)) F')
      have HLE := Lib.hid (show ((xs.take k).filter (grpP n ys)).length ≤ 1048576 from Nat.le_trans (filter_len _ _ _) (by omega))
      have hkl : (k : Int) < (xs.length : Int) := by omega
      obtain ⟨x, ex⟩ : ∃ x, x = xs[k] := ⟨_, rfl⟩
      rw [← ex] at c0 c1 c2 hin hsize hsx hyes hno
      have HIN := Lib.hid hin
      have HIW := Lib.hid (show x.w.At B wr (.agg #[.slice q x.w.ns.length d, .slice q' x.w.es.length d']) ∧ kBn.Rd B wr (.slice r x.bs.length e) x.bs from by obtain ⟨a1, a2, a3, e1, h1, h2, h3⟩ := hin; cases e1; exact ⟨⟨_, _, rfl, h1, h2⟩, h3⟩)
      have HYES := Lib.hid hyes
      have HNO := Lib.hid hno
      have hn1 : x.w.need ≤ 1048576 := by unfold Mt.need at hsize; omega
      have hn2 : x.bs.length + sumBn x.bs ≤ 1048576 := by unfold Mt.need at hsize; omega
      have HSX := Lib.hid hsx
      clear ex hin hsize hyes hno hsx
      obtain ⟨W, eW⟩ : ∃ W, W = wr.alloc (.cells #[.slice q x.w.ns.length d, .slice q' x.w.es.length d', .slice r x.bs.length e] 52) := ⟨_, rfl⟩
      have kW : Below wr.heap.size wr W := by rw [eW]; exact (Below.refl _ _).alloc (Nat.le_refl _) _
      have sW : wr.heap.size < W.heap.size := by rw [eW]; simp
      have HK := Lib.hid (fun (E : World) (hE : Below W.heap.size W E) => (⟨keepc hE sW (by rw [eW]; simp [go_sem]), keepc hE sW (by rw [eW]; simp [go_sem]), keepc hE sW (by rw [eW]; simp [go_sem])⟩ : E.cell? ⟨wr.heap.size, 0, none⟩ = some (.slice q x.w.ns.length d) ∧ E.cell? ⟨wr.heap.size, 1, none⟩ = some (.slice q' x.w.es.length d') ∧ E.cell? ⟨wr.heap.size, 2, none⟩ = some (.slice r x.bs.length e)))
      have EW := Lib.hid eW
      have kWw : Below w.heap.size w W := HB.out.trans (kW.mono hsz)
      clear eW
      go_upto_region 5 with fail
      rw [← EW.out]
      obtain ⟨m0, m1, m2⟩ := HK.out _ (Below.refl _ _)
      go_wp2_with fail
      refine (groupFn_any x _ n a1 a2 b0 ys B W (HIW.out.1.to (kW.mono (by omega)) (Nat.le_refl _)) (by omega) HSX.out.1 hys HSX.out.2 (HC.out W kWw).1 (HC.out W kWw).2.1 (HC.out W kWw).2.2).mono ?_
      rintro en w1 ⟨rfl, hb1⟩
      have r1 : Below W.heap.size W w1 := hb1
      have s1 := r1.size
      clear hb1 m0 m1 m2
      obtain ⟨m0, m1, m2⟩ := HK.out _ r1
      have hq1 : wr.heap.size < w1.heap.size := by omega
      cases hp : (grpP n ys) x with
      | false =>
        have HN := Lib.hid (HNO.out hp _ _ _ (HO.out.below (kW.trans (r1.mono (by omega)))))
        clear hp
        go_wp2_with fail
        go_roundw
        case rel => exact ⟨k + 1, F, by omega, by go_num, HN, HF, Lib.hid (kWw.trans (r1.mono (by omega)))⟩
        case measure => simp [intOf]; omega
      | true =>
        have HY := Lib.hid (HYES.out hp)
        clear hp
        have HKK := Lib.hid (fun (E : World) (hE : Below w1.heap.size w1 E) => HK.out E (r1.trans (hE.mono s1)))
        have CW := Lib.hid (fun (E : World) (hE : Below w1.heap.size w1 E) => ((extendWalk_any x.w [] [] (.agg #[.slice q x.w.ns.length d, .slice q' x.w.es.length d']) (.slice none 0 0) (.slice none 0 0) B E (HIW.out.1.to ((kW.trans ((r1.trans (hE.mono s1)).mono (by omega))).mono (by omega)) (Nat.le_refl _)) ⟨none, 0, 0, rfl, rfl, Nat.le_refl _, Nat.zero_le _, fun i hi => by simp at hi⟩ ⟨none, 0, 0, rfl, rfl, Nat.le_refl _, Nat.zero_le _, fun i hi => by simp at hi⟩ (by have := hE.size; omega) hn1 (by simp) (by simp)).mono (fun en w' ⟨v', G, e1, ho, hG, hb⟩ => by
          rw [wkExt_nil] at ho
          obtain ⟨pA, cA, qA, dA, rfl⟩ := ho.at.form
          exact ⟨pA, cA, qA, dA, G, e1, ho, fun y hy => Nat.le_trans hE.size (hG y hy), hb⟩) : Calls Try.prog 112 #[.agg #[.slice q x.w.ns.length d, .slice q' x.w.es.length d'], .slice none 0 0, .slice none 0 0] E (fun en w' => ∃ (pA : Option Addr) (cA : Nat) (qA : Option Addr) (dA : Nat) (G : List Nat), en = .returned (.agg #[.slice pA x.w.ns.length cA, .slice qA x.w.es.length dA]) ∧ x.w.Has (.agg #[.slice pA x.w.ns.length cA, .slice qA x.w.es.length dA]) G w' ∧ (∀ y ∈ G, w1.heap.size ≤ y) ∧ Below E.heap.size E w')))
        have CB := Lib.hid (fun (E : World) (hE : Below w1.heap.size w1 E) => copyBinds_any x.bs (.slice r x.bs.length e) B E (HIW.out.2.to ((kW.trans ((r1.trans (hE.mono s1)).mono (by omega))).mono (by omega)) (Nat.le_refl _)) (by have := hE.size; omega) hn2)
        have HO1 := Lib.hid (HO.out.below (kW.trans (r1.mono (by omega))))
        have CM := Lib.hid (fun (E : World) (hE : Below w1.heap.size w1 E) (ty : TypeId) => appMatch (HO1.out.below hE) ty x)
        have rr := Below.refl w1.heap.size w1
        have HB1 := Lib.hid (show Below w.heap.size w w1 from kWw.trans (r1.mono (by omega)))
        have hs9 : w.heap.size ≤ w1.heap.size := HB1.out.size
        go_upto_region 6 with fail
        go_region_held3 (fun w' => w'.cell? ⟨wr.heap.size, 0, none⟩ = some (.slice q x.w.ns.length d) ∧ w'.cell? ⟨wr.heap.size, 1, none⟩ = some (.slice q' x.w.es.length d') ∧ w'.cell? ⟨wr.heap.size, 2, none⟩ = some (.slice r x.bs.length e))
          (first | exact hk9 | exact HKK.out _ (show Below w1.heap.size w1 _ by ((repeat (first | with_reducible assumption | with_reducible exact Below.refl _ _ | refine Below.setCell ?_ (by (first | omega | (simp; omega) | (simp; done) | fail "sml")) _ | refine Below.drew ?_ | refine Below.alloc ?_ (by (first | omega | (simp; omega) | (simp; done) | fail "sml")) _)); first | done | fail "chs")))
          (first
            | (go_at_call 112; with_reducible refine (CW.out _ (show Below w1.heap.size w1 _ by ((repeat (first | with_reducible assumption | with_reducible exact Below.refl _ _ | refine Below.setCell ?_ (by (first | omega | (simp; omega) | (simp; done) | fail "sml")) _ | refine Below.drew ?_ | refine Below.alloc ?_ (by (first | omega | (simp; omega) | (simp; done) | fail "sml")) _)); first | done | fail "chs"))).mono ?_; rintro en wA ⟨pA, cA, qA, dA, FA, rfl, ho, hF, hb⟩; have kA := Below.trans (show Below w1.heap.size w1 _ by ((repeat (first | with_reducible assumption | with_reducible exact Below.refl _ _ | refine Below.setCell ?_ (by (first | omega | (simp; omega) | (simp; done) | fail "sml")) _ | refine Below.drew ?_ | refine Below.alloc ?_ (by (first | omega | (simp; omega) | (simp; done) | fail "sml")) _)); first | done | fail "chs")) (hb.mono (by (first | omega | (simp; omega) | (simp; done) | fail "sml"))); have zA := kA.size; have rA := Below.refl wA.heap.size wA; have HWA := Lib.hid ho; have GA := Lib.hid hF; clear ho hF hb)
            | (go_at_call 61; with_reducible refine (CB.out _ (show Below w1.heap.size w1 _ by ((repeat (first | with_reducible assumption | with_reducible exact Below.refl _ _ | refine Below.setCell ?_ (by (first | omega | (simp; omega) | (simp; done) | fail "sml")) _ | refine Below.drew ?_ | refine Below.alloc ?_ (by (first | omega | (simp; omega) | (simp; done) | fail "sml")) _)); first | done | fail "chs"))).mono ?_; rintro en wB ⟨u, FB, rfl, ho, hF, hb⟩; obtain ⟨pB, cB, rfl⟩ := ho.form; have kB := Below.trans (show Below w1.heap.size w1 _ by ((repeat (first | with_reducible assumption | with_reducible exact Below.refl _ _ | refine Below.setCell ?_ (by (first | omega | (simp; omega) | (simp; done) | fail "sml")) _ | refine Below.drew ?_ | refine Below.alloc ?_ (by (first | omega | (simp; omega) | (simp; done) | fail "sml")) _)); first | done | fail "chs")) (hb.mono (by (first | omega | (simp; omega) | (simp; done) | fail "sml"))); have zB := kB.size; have rB := Below.refl wB.heap.size wB; have sB := Below.trans (show Below wA.heap.size wA _ by ((repeat (first | with_reducible assumption | with_reducible exact Below.refl _ _ | refine Below.setCell ?_ (by (first | omega | (simp; omega) | (simp; done) | fail "sml")) _ | refine Below.drew ?_ | refine Below.alloc ?_ (by (first | omega | (simp; omega) | (simp; done) | fail "sml")) _)); first | done | fail "chs")) (hb.mono (by (first | omega | (simp; omega) | (simp; done) | fail "sml"))); have GB0 := (fun y hy => Nat.le_trans (show Below wA.heap.size wA _ by ((repeat (first | with_reducible assumption | with_reducible exact Below.refl _ _ | refine Below.setCell ?_ (by (first | omega | (simp; omega) | (simp; done) | fail "sml")) _ | refine Below.drew ?_ | refine Below.alloc ?_ (by (first | omega | (simp; omega) | (simp; done) | fail "sml")) _)); first | done | fail "chs")).size (hF y hy)); have HMB := Lib.hid (Mt.has_mk (HWA.out.chg (Chg.of_below sB []) (by simp)) ho (fun y hy hy2 => by have := HWA.out.lt y hy; have := GB0 y hy2; omega)); have GB := Lib.hid (show ∀ y ∈ FA ++ FB, w1.heap.size ≤ y from fun y hy => by rcases List.mem_append.1 hy with h | h; exact GA.out y h; exact Nat.le_trans zA (GB0 y h)); clear ho hF hb GB0)
            | (refine step_app_src (by rfl) (.tmp 18) (.tmp 26) 57 (by rfl) _ _ (by rfl) (by rfl) _ (CM.out _ (show Below w1.heap.size w1 _ by ((repeat (first | with_reducible assumption | with_reducible exact Below.refl _ _ | refine Below.setCell ?_ (by (first | omega | (simp; omega) | (simp; done) | fail "sml")) _ | refine Below.drew ?_ | refine Below.alloc ?_ (by (first | omega | (simp; omega) | (simp; done) | fail "sml")) _)); first | done | fail "chs")) _ pA cA qA dA pB cB (FA ++ FB) _ _ (HMB.out.chg (Chg.of_below (show Below wB.heap.size wB _ by ((repeat (first | with_reducible assumption | with_reducible exact Below.refl _ _ | refine Below.setCell ?_ (by (first | omega | (simp; omega) | (simp; done) | fail "sml")) _ | refine Below.drew ?_ | refine Below.alloc ?_ (by (first | omega | (simp; omega) | (simp; done) | fail "sml")) _)); first | done | fail "chs")) []) (by simp)) (fun y hy hy2 => by have := HO1.out.lt y hy; have := GB.out y hy2; omega) (by simp [go_sem]) (by simp [go_sem]) (by simp [go_sem]) HLE.out) ?_; intro vC wC hv; obtain ⟨F', h1, h2, h3⟩ := hv; have hB9 := Lib.hid (below_app HB1.out (show Below w1.heap.size w1 _ by ((repeat (first | with_reducible assumption | with_reducible exact Below.refl _ _ | refine Below.setCell ?_ (by (first | omega | (simp; omega) | (simp; done) | fail "sml")) _ | refine Below.drew ?_ | refine Below.alloc ?_ (by (first | omega | (simp; omega) | (simp; done) | fail "sml")) _)); first | done | fail "chs")) h3 HF.out); have hF9 := Lib.hid (ge_app hs9 (show Below w1.heap.size w1 _ by ((repeat (first | with_reducible assumption | with_reducible exact Below.refl _ _ | refine Below.setCell ?_ (by (first | omega | (simp; omega) | (simp; done) | fail "sml")) _ | refine Below.drew ?_ | refine Below.alloc ?_ (by (first | omega | (simp; omega) | (simp; done) | fail "sml")) _)); first | done | fail "chs")) h2 HF.out GB.out); have hO9 := Lib.hid (HY.out _ _ _ h1); have hk9 := (show wC.cell? ⟨wr.heap.size, 0, none⟩ = some (.slice q x.w.ns.length d) ∧ wC.cell? ⟨wr.heap.size, 1, none⟩ = some (.slice q' x.w.es.length d') ∧ wC.cell? ⟨wr.heap.size, 2, none⟩ = some (.slice r x.bs.length e) from ⟨h3.cellOf (fun hy => absurd (HO.out.lt _ hy) (by omega)) (HKK.out _ (show Below w1.heap.size w1 _ by ((repeat (first | with_reducible assumption | with_reducible exact Below.refl _ _ | refine Below.setCell ?_ (by (first | omega | (simp; omega) | (simp; done) | fail "sml")) _ | refine Below.drew ?_ | refine Below.alloc ?_ (by (first | omega | (simp; omega) | (simp; done) | fail "sml")) _)); first | done | fail "chs"))).1, h3.cellOf (fun hy => absurd (HO.out.lt _ hy) (by omega)) (HKK.out _ (show Below w1.heap.size w1 _ by ((repeat (first | with_reducible assumption | with_reducible exact Below.refl _ _ | refine Below.setCell ?_ (by (first | omega | (simp; omega) | (simp; done) | fail "sml")) _ | refine Below.drew ?_ | refine Below.alloc ?_ (by (first | omega | (simp; omega) | (simp; done) | fail "sml")) _)); first | done | fail "chs"))).2.1, h3.cellOf (fun hy => absurd (HO.out.lt _ hy) (by omega)) (HKK.out _ (show Below w1.heap.size w1 _ by ((repeat (first | with_reducible assumption | with_reducible exact Below.refl _ _ | refine Below.setCell ?_ (by (first | omega | (simp; omega) | (simp; done) | fail "sml")) _ | refine Below.drew ?_ | refine Below.alloc ?_ (by (first | omega | (simp; omega) | (simp; done) | fail "sml")) _)); first | done | fail "chs"))).2.2⟩); clear h1 h2 h3)
            | fail "no arm")
        go_wp2_with fail
        go_roundw
        case rel => exact ⟨k + 1, F', by omega, by go_num, hO9, hF9, hB9⟩
        case measure => simp [intOf]; omega
    · obtain rfl : k = xs.length := by omega
      have HO2 := Lib.hid (show kMt.Ow wr u5 (xs.filter (grpP n ys)) F by have h := HO.out; rw [List.take_length] at h; exact h.ow)
      go_wp2_with fail
      go_ret
      exact ⟨_, F, rfl, HO2.out, HF.out, HB.out⟩

set_option maxRecDepth 100000 in
set_option maxHeartbeats 8000000 in
theorem shortestGroups_any (xs : List Mt) (v : Value) (n : Int) (B : Nat) (w : World) (hv : kMt.Rd B w v xs) (hB : B ≤ w.heap.size) (hn : xs.length + sumMt xs ≤ 1048576) (hok : ∀ x ∈ xs, x.Ok) :
    Calls Try.prog 34 #[v, .int .i64 n] w (MbPost (groupR n xs) (okF n xs) w) := by
  obtain ⟨p, cap, rfl⟩ := hv.form
  obtain ⟨_, hm1, hm2⟩ := hv.max
  unfold maxLen at hm2
  have HV := Lib.hid hv
  clear hv
  obtain ⟨W, eW⟩ : ∃ W, W = w.alloc (.cells #[.int .i64 n] 3) := ⟨_, rfl⟩
  have kW : Below w.heap.size w W := by rw [eW]; exact (Below.refl _ _).alloc (Nat.le_refl _) _
  have sW : w.heap.size < W.heap.size := by rw [eW]; simp
  have HC := Lib.hid (fun (E : World) (hE : Below W.heap.size W E) => keepc hE sW (show W.cell? ⟨w.heap.size, 0, none⟩ = some (.int .i64 n) by rw [eW]; simp [go_sem]))
  have c0 := HC.out _ (Below.refl _ _)
  have EW := Lib.hid eW
  clear eW
  by_cases hneg : n < 0
  · have HO := Lib.hid (show okF n xs = false by unfold okF; rw [decide_eq_true hneg]; simp)
    have HR := Lib.hid (show groupR n xs = [] by unfold groupR; rw [HO.out]; rfl)
    go_enter Try.func34, Try.ntmps34
    go_upto_region 1 with fail
    rw [← EW.out]
    go_wp2_with fail
    refine bodyPost_ret (v := .tuple #[.slice none 0 0, .bool false]) (by simp [results, Try.results34, go_sem]) rfl ?_
    exact ⟨_, [], by rw [HO.out], by rw [HR.out]; exact (Kd.OwB.nil kMt 52 _ _).ow, by simp, kW⟩
  have HNG := Lib.hid (show decide (n < 0) = false from decide_eq_false hneg)
  have hmm := @run_makeMap Try.prog
  go_enter Try.func34, Try.ntmps34
  go_upto_region 1 with fail
  rw [← EW.out]
  go_wp2_with fail
  refine (haveShape_any xs _ B W (HV.out.to (kW.mono hB) (Nat.le_refl _)) (by omega) (by omega)).mono ?_
  rintro en w1 ⟨rfl, hb1⟩
  have r1 : Below w.heap.size w w1 := kW.trans (hb1.mono (by omega))
  have c1 := HC.out _ hb1
  have s1 := hb1.size
  clear hb1 c0
  cases hE : xs.all shP with
  | false =>
    have HO := Lib.hid (show okF n xs = false by unfold okF; rw [hE]; rfl)
    have HR := Lib.hid (show groupR n xs = [] by unfold groupR; rw [HO.out]; rfl)
    clear hE
    go_wp2_with fail
    refine bodyPost_ret (v := .tuple #[.slice none 0 0, .bool false]) (by simp [results, Try.results34, go_sem]) rfl ?_
    exact ⟨_, [], by rw [HO.out], by rw [HR.out]; exact (Kd.OwB.nil kMt 52 _ _).ow, by simp, r1⟩
  | true =>
    have HO := Lib.hid (show okF n xs = true by unfold okF; rw [hE, HNG.out]; rfl)
    have HR := Lib.hid (groupR_filter HO.out)
    have HE := Lib.hid hE
    have HSH := Lib.hid (List.all_eq_true.1 hE)
    have HOK := Lib.hid hok
    clear hE hok
    obtain ⟨W2, eW2⟩ : ∃ W2, W2 = (w1.alloc (.map #[] 0)).alloc (.cells #[.map (some w1.heap.size)] 110) := ⟨_, rfl⟩
    have k2 : Below w1.heap.size w1 W2 := by rw [eW2]; exact ((Below.refl _ _).alloc (Nat.le_refl _) _).alloc (by simp) _
    have s2 : w1.heap.size + 1 < W2.heap.size := by rw [eW2]; simp
    have hm2' : IMap W2 w1.heap.size (endS xs 0) (mskV xs 0) := by rw [eW2]; exact (IMap.made w1 (mskV xs 0)).chg (G := []) ((Chg.refl _ _).alloc _) (by simp)
    have cm2 : W2.cell? ⟨w1.heap.size + 1, 0, none⟩ = some (.map (some w1.heap.size)) := by rw [eW2]; simp [go_sem]
    have cn2 := keepc k2 (by omega) c1
    have r2 : Below w.heap.size w W2 := r1.trans (k2.mono (by omega))
    have EW2 := Lib.hid eW2
    obtain ⟨b0, eb0⟩ : ∃ b0, b0 = w1.heap.size := ⟨_, rfl⟩
    rw [← eb0] at hm2' cm2
    have hb0 : w.heap.size < b0 := by omega
    have HCE := Lib.hid (fun (E : World) (hE : Chg [b0] W2 E) => (⟨hE.cellOf (by simp) cm2, hE.cellOf (by simp; omega) cn2, r2.trans (hE.below (by omega) (by simp; omega))⟩ : E.cell? ⟨b0 + 1, 0, none⟩ = some (.map (some b0)) ∧ E.cell? ⟨w.heap.size, 0, none⟩ = some (.int .i64 n) ∧ Below w.heap.size w E))
    have EB0 := Lib.hid eb0
    have HT := Lib.hid (show Try.prog.underlying 110 = some (.map 113 111) from Try.underlying110)
    have HZ := Lib.hid (show ∀ w, (zeroValue 111).run Try.prog w = .ok (.int .u64 0) w from fun w => by kernel_rfl)
    clear eW2 cm2 cn2 c1 k2
    go_upto_region 4 with fail
    rw [← EW2.out]
    rw [← EB0.out]
    clear eb0
    go_wp2_with fail
    go_loopw [19] (fun i wr => ∃ k : Nat, k ≤ xs.length ∧ i = .int .i64 k ∧ RowKit.Hid (IMap wr b0 (endS xs k) (mskV xs k)) ∧ RowKit.Hid (Chg [b0] W2 wr)) (fun i _ => xs.length - (intOf i).toNat)
    case atStart => exact ⟨0, Nat.zero_le _, rfl, Lib.hid hm2', Lib.hid (Chg.refl _ _)⟩
    case round =>
      obtain ⟨k, hk, rfl, HM, HC2⟩ := hrel
      rename World => wr
      have hbl := HM.out.lt
      have hsz := HC2.out.size
      obtain ⟨cmr, cnr, hbr⟩ := HCE.out _ HC2.out
      have hszw := hbr.size
      have hcm9 : b0 + 1 < wr.heap.size := World.block_lt_of_cell? wr _ cmr
      by_cases hlt : k < xs.length
      · have hkl : (k : Int) < (xs.length : Int) := by omega
        have HLT := Lib.hid (show k + 1 ≤ xs.length from hlt)
        obtain ⟨b, off, q, d, q', d', r, e, rfl, hb, m0, m1, m2, hin⟩ := kMt_get (HV.out.to (hbr.mono hB) (Nat.le_refl _)) hlt
        have hsx := HSH.out _ (List.getElem_mem hlt)
        have hokx := endP_ok2 (HOK.out _ (List.getElem_mem hlt)) (shP_pos hsx)
        have hml := maskN_lt HE.out (endP (xs[k]'hlt)) k
        have hat := atM_msk hk (endP (xs[k]'hlt))
        have hstep := fun (E : World) (z : Value) (h : IMap E b0 (endP (xs[k]'hlt) :: endS xs k) (updM (updM (mskV xs k) (endP (xs[k]'hlt)) z) (endP (xs[k]'hlt)) (.int .u64 ((maskN xs (endP (xs[k]'hlt)) k ||| 2 ^ lenE (xs[k]'hlt) : Nat) : Int)))) => msk_step hlt h
        obtain ⟨M, eM⟩ : ∃ M, M = maskN xs (endP (xs[k]'hlt)) k := ⟨_, rfl⟩
        rw [← eM] at hml hat hstep
        obtain ⟨Y, eY⟩ : ∃ Y, Y = endP (xs[k]'hlt) := ⟨_, rfl⟩
        rw [← eY] at hokx hat hstep
        obtain ⟨x, ex⟩ : ∃ x, x = xs[k]'hlt := ⟨_, rfl⟩
        rw [← ex] at m0 m1 m2 hin hsx hstep eY
        have el : x.w.es.length = lenE x := rfl
        rw [el] at m1
        have hl8 := lenE_le hsx
        have hle' : (lenE x : Int) ≤ 8 := by omega
        have hle0 : (0 : Int) ≤ (lenE x : Int) := by omega
        have HOR := Lib.hid (or9 M hml (lenE x) (by omega))
        have HAT := Lib.hid hat
        have HSTEP := Lib.hid hstep
        have HP := Lib.hid hokx
        obtain ⟨W, eW⟩ : ∃ W, W = wr.alloc (.cells #[.slice q x.w.ns.length d, .slice q' (lenE x) d', .slice r x.bs.length e] 52) := ⟨_, rfl⟩
        have kW := Lib.hid (show Below wr.heap.size wr W by rw [eW]; exact (Below.refl _ _).alloc (Nat.le_refl _) _)
        have sWr : wr.heap.size < W.heap.size := by rw [eW]; simp
        have HIN := Lib.hid (show x.w.At B W (.agg #[.slice q x.w.ns.length d, .slice q' (lenE x) d']) by
          obtain ⟨a1, a2, a3, e1, h1, h2, h3⟩ := hin
          cases e1
          exact Wk.At.to ⟨_, _, rfl, h1, h2⟩ (kW.out.mono (by omega)) (Nat.le_refl _))
        have HKC := Lib.hid (fun (E : World) (hE : Chg [b0] W E) => (⟨⟨hE.cellOf (by simp; omega) (by rw [eW]; simp [go_sem]), hE.cellOf (by simp; omega) (by rw [eW]; simp [go_sem])⟩, hE.cellOf (by simp) (keepc kW.out (by omega) cmr)⟩ : (E.cell? ⟨wr.heap.size, 0, none⟩ = some (.slice q x.w.ns.length d) ∧ E.cell? ⟨wr.heap.size, 1, none⟩ = some (.slice q' (lenE x) d')) ∧ E.cell? ⟨b0 + 1, 0, none⟩ = some (.map (some b0))))
        have HIW := Lib.hid (HM.out.chg (G := []) (Chg.of_below kW.out []) (by simp))
        have CE := Lib.hid (fun (E : World) (hE : Chg [b0] W E) => (by rw [eY]; exact endsOf_any x (.agg #[.slice q x.w.ns.length d, .slice q' (lenE x) d']) B E (HIN.out.to (hE.below (by omega) (by simp; omega)) (Nat.le_refl _)) (by have := hE.size; omega) hsx : Calls Try.prog 79 #[.agg #[.slice q x.w.ns.length d, .slice q' (lenE x) d']] E (fun en w' => en = .returned (endV Y) ∧ Below E.heap.size E w')))
        have EW := Lib.hid eW
        have r0 : Chg [b0] W W := Chg.refl _ _
        clear eW hin hsx hokx hml hat hstep eM eY ex
        go_upto_region 7 with fail
        rw [← EW.out]
        clear m0 m1 m2
        refine wp_region_held_drew (S := fun w' => (w'.cell? ⟨wr.heap.size, 0, none⟩ = some (.slice q x.w.ns.length d) ∧ w'.cell? ⟨wr.heap.size, 1, none⟩ = some (.slice q' (lenE x) d')) ∧ w'.cell? ⟨b0 + 1, 0, none⟩ = some (.map (some b0))) (by kernel_rfl) ?_ (fun hHeld => ?_)
        · exact HKC.out _ (show Chg [b0] W _ by ((repeat (first | with_reducible assumption | with_reducible exact Chg.refl _ _ | refine Chg.alloc ?_ _ | refine Chg.drew ?_)); first | done | fail "chb"))
        (refine takeL (i := 0) (v := ?_) rfl (by kernel_rfl) (by kernel_rfl) (by kernel_rfl) (fun _ _ _ h => h) (Or.inl ⟨by kernel_rfl, ?_⟩) (by assumption) ?_; rotate_left; (focus (intro w hSw; (try dsimp only at hSw); go_simp; first | done | with_reducible rfl | fail "take")); (try simp only [Act.put, List.setIfInBounds_toArray, List.set_cons_zero, List.set_cons_succ]))
        (refine takeL (i := 1) (v := ?_) rfl (by kernel_rfl) (by kernel_rfl) (by kernel_rfl) (fun _ _ _ h => h) (Or.inl ⟨by kernel_rfl, ?_⟩) (by assumption) ?_; rotate_left; (focus (intro w hSw; (try dsimp only at hSw); go_simp; first | done | with_reducible rfl | fail "take")); (try simp only [Act.put, List.setIfInBounds_toArray, List.set_cons_zero, List.set_cons_succ]))
        (refine takeL (i := 2) (v := ?_) rfl (by kernel_rfl) (by kernel_rfl) (by kernel_rfl) (fun _ _ _ h => h) (Or.inl ⟨by kernel_rfl, ?_⟩) (by assumption) ?_; rotate_left; (focus (intro w hSw; (try dsimp only at hSw); go_simp; first | done | with_reducible rfl | fail "take")); (try simp only [Act.put, List.setIfInBounds_toArray, List.set_cons_zero, List.set_cons_succ]))
        (refine takeL (i := 5) (v := ?_) rfl (by kernel_rfl) (by kernel_rfl) (by kernel_rfl) (fun _ _ _ h => h) (Or.inl ⟨by kernel_rfl, ?_⟩) (by assumption) ?_; rotate_left; (focus (intro w hSw; (try dsimp only at hSw); go_simp; first | done | with_reducible rfl | fail "take")); (try simp only [Act.put, List.setIfInBounds_toArray, List.set_cons_zero, List.set_cons_succ]))
        (refine takeL (i := 6) (v := ?_) rfl (by kernel_rfl) (by kernel_rfl) (by kernel_rfl) (fun _ _ _ h => h) (Or.inl ⟨by kernel_rfl, ?_⟩) (by assumption) ?_; rotate_left; (focus (intro w hSw; (try dsimp only at hSw); go_simp; first | done | with_reducible rfl | fail "take")); (try simp only [Act.put, List.setIfInBounds_toArray, List.set_cons_zero, List.set_cons_succ]))
        (refine takeL (i := 7) (v := ?_) rfl (by kernel_rfl) (by kernel_rfl) (by kernel_rfl) (fun _ _ _ h => h) (Or.inl ⟨by kernel_rfl, ?_⟩) (by assumption) ?_; rotate_left; (focus (intro w hSw; (try dsimp only at hSw); go_simp; first | done | with_reducible rfl | fail "take")); (try simp only [Act.put, List.setIfInBounds_toArray, List.set_cons_zero, List.set_cons_succ]))
        (refine takeL (i := 8) (v := ?_) rfl (by kernel_rfl) (by kernel_rfl) (by kernel_rfl) (fun _ _ _ h => h) (Or.inl ⟨by kernel_rfl, ?_⟩) (by assumption) ?_; rotate_left; (focus (intro w hSw; (try dsimp only at hSw); go_simp; first | done | with_reducible rfl | fail "take")); (try simp only [Act.put, List.setIfInBounds_toArray, List.set_cons_zero, List.set_cons_succ]))
        (refine takeL (i := 9) (v := ?_) rfl (by kernel_rfl) (by kernel_rfl) (by kernel_rfl) (fun _ _ _ h => h) (Or.inl ⟨by kernel_rfl, ?_⟩) (by assumption) ?_; rotate_left; (focus (intro w hSw; (try dsimp only at hSw); go_simp; first | done | with_reducible rfl | fail "take")); (try simp only [Act.put, List.setIfInBounds_toArray, List.set_cons_zero, List.set_cons_succ]))
        (refine callL (i := 3) rfl (by kernel_rfl) (by kernel_rfl) (fun K hK => ?_); go_simp)
        go_at_call 79
        refine Calls.mono (CE.out _ (show Chg [b0] W _ by ((repeat (first | with_reducible assumption | with_reducible exact Chg.refl _ _ | refine Chg.alloc ?_ _ | refine Chg.drew ?_)); first | done | fail "chb"))) ?_
        rintro en wa ⟨rfl, hba⟩
        have kwa : Chg [b0] W wa := (show Chg [b0] W _ by ((repeat (first | with_reducible assumption | with_reducible exact Chg.refl _ _ | refine Chg.alloc ?_ _ | refine Chg.drew ?_)); first | done | fail "chb")).trans (Chg.of_below hba [b0])
        have HIa := Lib.hid (HIW.out.chg (G := []) ((Chg.drew (Chg.refl [] W)).trans (Chg.of_below hba [])) (by simp))
        clear hba
        go_wp2_with fail
        refine hK.out _ _ (HKC.out _ (show Chg [b0] W _ by ((repeat (first | with_reducible assumption | with_reducible exact Chg.refl _ _ | refine Chg.alloc ?_ _ | refine Chg.drew ?_)); first | done | fail "chb"))) (fun hHeld => ?_)
        clear hK K
        (try simp only [Act.put, List.setIfInBounds_toArray, List.set_cons_zero, List.set_cons_succ])
        refine twoL (i := 4) (j := 11) rfl rfl (by kernel_rfl) (by kernel_rfl) (by kernel_rfl) (fun K hK => ?_) (fun K hK => ?_)
        · skip
          refine opwp_lookup rfl rfl rfl ((by have h := run_lookupI HT.out HZ.out HIa.out HP.out; rw [HAT.out] at h; exact h)) ?_
          refine hK.out _ _ (HKC.out _ (show Chg [b0] W _ by ((repeat (first | with_reducible assumption | with_reducible exact Chg.refl _ _ | refine Chg.alloc ?_ _ | refine Chg.drew ?_)); first | done | fail "chb"))) (fun hHeld => ?_)
          clear hK K
          (try simp only [Act.put, List.setIfInBounds_toArray, List.set_cons_zero, List.set_cons_succ])
          (refine takeL (i := 10) (v := ?_) rfl (by kernel_rfl) (by kernel_rfl) (by kernel_rfl) (fun _ _ _ h => h) (Or.inl ⟨by kernel_rfl, ?_⟩) (by assumption) ?_; rotate_left; (focus (intro w hSw; (try dsimp only at hSw); go_simp; first | done | with_reducible rfl | fail "take")); (try simp only [Act.put, List.setIfInBounds_toArray, List.set_cons_zero, List.set_cons_succ]))
          refine callL (i := 11) rfl (by kernel_rfl) (by kernel_rfl) (fun K hK => ?_)
          obtain ⟨st, w2, hrun, hI, hBn, hcg⟩ := run_entryI HT.out HZ.out (HIa.out) HP.out
          have kw2 : Chg [b0] W w2 := (show Chg [b0] W _ by ((repeat (first | with_reducible assumption | with_reducible exact Chg.refl _ _ | refine Chg.alloc ?_ _ | refine Chg.drew ?_)); first | done | fail "chb")).trans hcg
          have HI := Lib.hid hI
          have HBN := Lib.hid hBn
          refine opwp_entry rfl rfl rfl hrun ?_
          clear hrun hI hBn hcg
          refine hK.out _ _ (HKC.out _ (show Chg [b0] W _ by ((repeat (first | with_reducible assumption | with_reducible exact Chg.refl _ _ | refine Chg.alloc ?_ _ | refine Chg.drew ?_)); first | done | fail "chb"))) (fun hHeld => ?_)
          clear hK K
          (try simp only [Act.put, List.setIfInBounds_toArray, List.set_cons_zero, List.set_cons_succ])
          (refine takeL (i := 12) (v := ?_) rfl (by kernel_rfl) (by kernel_rfl) (by kernel_rfl) (fun _ _ _ h => h) (Or.inl ⟨by kernel_rfl, ?_⟩) (by assumption) ?_; rotate_left; (focus (intro w hSw; (try dsimp only at hSw); go_simp; first | done | with_reducible rfl | fail "take")); (try simp only [Act.put, List.setIfInBounds_toArray, List.set_cons_zero, List.set_cons_succ]))
          refine callL (i := 13) rfl (by kernel_rfl) (by kernel_rfl) (fun K hK => ?_)
          obtain ⟨w3, hrun, hI, hcg⟩ := run_estoreI (t := 110) HI.out HBN.out (.int .u64 ((M ||| 2 ^ lenE x : Nat) : Int))
          have kw3 : Chg [b0] W w3 := (show Chg [b0] W _ by ((repeat (first | with_reducible assumption | with_reducible exact Chg.refl _ _ | refine Chg.alloc ?_ _ | refine Chg.drew ?_)); first | done | fail "chb")).trans hcg
          have HI2 := Lib.hid (HSTEP.out _ _ hI)
          refine opwp_estore rfl rfl rfl (congrArg (Value.int .u64) HOR.out) hrun ?_
          clear hrun hI hcg
          refine hK.out _ _ (HKC.out _ (show Chg [b0] W _ by ((repeat (first | with_reducible assumption | with_reducible exact Chg.refl _ _ | refine Chg.alloc ?_ _ | refine Chg.drew ?_)); first | done | fail "chb"))) (fun hHeld => ?_)
          clear hK K
          simp only [Act.put]
          refine wpAnyH_done (by kernel_rfl) ?_ _
          go_wp2_with fail
          go_roundw
          case rel => exact ⟨k + 1, HLT.out, by go_num, HI2, Lib.hid (HC2.out.trans ((Chg.of_below kW.out [b0]).trans kw3))⟩
          case measure => have := HLT.out; simp [intOf]; omega
        · skip
          obtain ⟨st, w2, hrun, hI, hBn, hcg⟩ := run_entryI HT.out HZ.out (HIa.out) HP.out
          have kw2 : Chg [b0] W w2 := (show Chg [b0] W _ by ((repeat (first | with_reducible assumption | with_reducible exact Chg.refl _ _ | refine Chg.alloc ?_ _ | refine Chg.drew ?_)); first | done | fail "chb")).trans hcg
          have HI := Lib.hid hI
          have HBN := Lib.hid hBn
          refine opwp_entry rfl rfl rfl hrun ?_
          clear hrun hI hBn hcg
          refine hK.out _ _ (HKC.out _ (show Chg [b0] W _ by ((repeat (first | with_reducible assumption | with_reducible exact Chg.refl _ _ | refine Chg.alloc ?_ _ | refine Chg.drew ?_)); first | done | fail "chb"))) (fun hHeld => ?_)
          clear hK K
          (try simp only [Act.put, List.setIfInBounds_toArray, List.set_cons_zero, List.set_cons_succ])
          (refine takeL (i := 12) (v := ?_) rfl (by kernel_rfl) (by kernel_rfl) (by kernel_rfl) (fun _ _ _ h => h) (Or.inl ⟨by kernel_rfl, ?_⟩) (by assumption) ?_; rotate_left; (focus (intro w hSw; (try dsimp only at hSw); go_simp; first | done | with_reducible rfl | fail "take")); (try simp only [Act.put, List.setIfInBounds_toArray, List.set_cons_zero, List.set_cons_succ]))
          refine callL (i := 4) rfl (by kernel_rfl) (by kernel_rfl) (fun K hK => ?_)
          refine opwp_lookup rfl rfl rfl ((by have h := run_lookupI HT.out HZ.out HI.out HP.out; rw [atM_upd, HAT.out] at h; exact h)) ?_
          refine hK.out _ _ (HKC.out _ (show Chg [b0] W _ by ((repeat (first | with_reducible assumption | with_reducible exact Chg.refl _ _ | refine Chg.alloc ?_ _ | refine Chg.drew ?_)); first | done | fail "chb"))) (fun hHeld => ?_)
          clear hK K
          (try simp only [Act.put, List.setIfInBounds_toArray, List.set_cons_zero, List.set_cons_succ])
          (refine takeL (i := 10) (v := ?_) rfl (by kernel_rfl) (by kernel_rfl) (by kernel_rfl) (fun _ _ _ h => h) (Or.inl ⟨by kernel_rfl, ?_⟩) (by assumption) ?_; rotate_left; (focus (intro w hSw; (try dsimp only at hSw); go_simp; first | done | with_reducible rfl | fail "take")); (try simp only [Act.put, List.setIfInBounds_toArray, List.set_cons_zero, List.set_cons_succ]))
          refine callL (i := 13) rfl (by kernel_rfl) (by kernel_rfl) (fun K hK => ?_)
          obtain ⟨w3, hrun, hI, hcg⟩ := run_estoreI (t := 110) HI.out HBN.out (.int .u64 ((M ||| 2 ^ lenE x : Nat) : Int))
          have kw3 : Chg [b0] W w3 := (show Chg [b0] W _ by ((repeat (first | with_reducible assumption | with_reducible exact Chg.refl _ _ | refine Chg.alloc ?_ _ | refine Chg.drew ?_)); first | done | fail "chb")).trans hcg
          have HI2 := Lib.hid (HSTEP.out _ _ hI)
          refine opwp_estore rfl rfl rfl (congrArg (Value.int .u64) HOR.out) hrun ?_
          clear hrun hI hcg
          refine hK.out _ _ (HKC.out _ (show Chg [b0] W _ by ((repeat (first | with_reducible assumption | with_reducible exact Chg.refl _ _ | refine Chg.alloc ?_ _ | refine Chg.drew ?_)); first | done | fail "chb"))) (fun hHeld => ?_)
          clear hK K
          simp only [Act.put]
          refine wpAnyH_done (by kernel_rfl) ?_ _
          go_wp2_with fail
          go_roundw
          case rel => exact ⟨k + 1, HLT.out, by go_num, HI2, Lib.hid (HC2.out.trans ((Chg.of_below kW.out [b0]).trans kw3))⟩
          case measure => have := HLT.out; simp [intOf]; omega
      · obtain rfl : k = xs.length := by omega
        have hkl : ¬ (xs.length : Int) < (xs.length : Int) := by omega
        go_wp2_with fail
        refine (pickGroup_any xs _ n (b0 + 1) w.heap.size b0 xs B wr (HV.out.to (hbr.mono hB) (Nat.le_refl _)) (by omega) hn HE.out HE.out HOK.out cmr cnr HM.out).mono ?_
        rintro en w2 ⟨v', F, rfl, ho, hF, hc2⟩
        have HO2 := Lib.hid ho
        have HF := Lib.hid (show ∀ y ∈ F, w.heap.size ≤ y from fun y hy => by have := hF y hy; omega)
        have HB := Lib.hid (show Below w.heap.size w w2 from hbr.trans (hc2.mono hszw))
        clear ho hF hc2
        go_wp2_with fail
        refine bodyPost_ret (v := .tuple #[v', .bool true]) (by simp [results, Try.results34, go_sem]) rfl ?_
        exact ⟨_, F, by rw [HO.out], by rw [HR.out]; exact HO2.out, HF.out, HB.out⟩
end Go.Proofs.Ytggpnnoldjpmcaa
namespace Go.Proofs.Ytggpnnoldjpmcaa
open Go.RowKit

set_option maxRecDepth 100000 in
set_option maxHeartbeats 1000000 in
theorem l9In_any (xs : List Int) (n : Int) (v : Value) (B : Nat) (w : World) (hv : Sl 1 intCells B w v xs) :
    Calls Try.prog 107 #[v, .int .i64 n] w fun en w' => en = .returned (.bool (decide (n ∈ xs))) ∧ w' = w := by
  obtain ⟨p, cap, rfl⟩ := hv.form
  have hm := hv.max
  unfold maxLen at hm
  have HV := Lib.hid hv
  clear hv
  go_enter Try.func107, Try.ntmps107
  go_wp2_with fail
  go_loopw [5] (fun i wr => ∃ (m : Nat), m ≤ xs.length ∧ i = .int .i64 (m : Int) ∧ RowKit.Hid (∀ (j : Nat) (hj : j < xs.length), j < m → xs[j] ≠ n) ∧ wr = w) (fun i _ => xs.length - (intOf i).toNat)
  case atStart => exact ⟨0, Nat.zero_le _, rfl, Lib.hid (fun j _ h => by omega), rfl⟩
  case round =>
    obtain ⟨m, hm', rfl, HE, rfl⟩ := hrel
    by_cases hlt : m < xs.length
    · obtain ⟨b, off, rfl, hb, c0⟩ := HV.out.it hlt
      have hst : xs[m] ≠ n → ∀ (j : Nat) (hj : j < xs.length), j < m + 1 → xs[j] ≠ n := by
        intro h j hj hj2
        by_cases hjm : j = m
        · subst hjm; exact h
        · exact HE.out j hj (by omega)
      have HST := Lib.hid hst
      have HHIT := Lib.hid (fun h : xs[m] = n => (h ▸ List.getElem_mem hlt : n ∈ xs))
      obtain ⟨a, ea⟩ : ∃ a, a = xs[m] := ⟨_, rfl⟩
      rw [← ea] at c0
      have EA := Lib.hid ea
      clear hst ea
      by_cases he : a = n
      · have HT := Lib.hid (decide_eq_true (HHIT.out (by rw [← EA.out]; exact he)))
        go_wp2_with fail
        go_ret
        exact ⟨by rw [HT.out]; rfl, rfl⟩
      · have HS2 := Lib.hid (HST.out (by rw [← EA.out]; exact he))
        go_wp2_with fail
        go_roundw
        case rel => exact ⟨m + 1, by omega, by go_num, HS2, by first | rfl | trivial⟩
        case measure => simp [intOf]; omega
    · obtain rfl : m = xs.length := by omega
      have HT := Lib.hid (show decide (n ∈ xs) = false from decide_eq_false fun h => by
        obtain ⟨j, hj, e⟩ := List.getElem_of_mem h
        exact HE.out j hj hj e)
      go_wp2_with fail
      go_ret
      exact ⟨by rw [HT.out]; rfl, rfl⟩
/-- l9Lengths. -/
theorem infoIntL : (Try.prog.info? 3).map (fun i => (i.zero, i.size, i.bytes)) = some (some (.int .i64 0), 1, 8) := by kernel_rfl
theorem appInt {w : World} {v : Value} {xs : List Int} {F : List Nat} (h : OwnB 1 intCells 3 w v xs F) (y : Int) (g c : Nat) (h0 : w.cell? ⟨g, 0, none⟩ = some (.int .i64 y)) (h63 : xs.length ≤ 1048576) :
    ∃ v' w', (Builtin.append_ #[43, 43] 43 #[v, .slice (some ⟨g, 0, none⟩) 1 c]).run Try.prog w = .ok v' w' ∧ ∃ F', OwnB 1 intCells 3 w' v' (xs ++ [y]) F' ∧ (∀ x ∈ F', x ∈ F ∨ w.heap.size ≤ x) ∧ Chg F w w' := by
  obtain ⟨i, hi, hzz⟩ := Option.map_eq_some_iff.1 infoIntL
  simp only [Prod.mk.injEq] at hzz
  obtain ⟨hz, hs, hb⟩ := hzz
  refine OwnB.append (enc := intCells) (fun _ => rfl) (fun x u hu => by simp [intCells] at hu; subst hu; rfl) _ _ 3 i _ 8 Try.underlying43 hi hz hs hb rfl h y g c (fun j u hu => ?_) (by omega) (by omega)
  match j, hu with
  | 0, hu => simp [intCells] at hu; subst hu; exact h0
  | j + 1, hu => simp [intCells] at hu
theorem OwnB.sl {w : World} {v : Value} {xs : List Int} {F : List Nat} (h : OwnB 1 intCells 3 w v xs F) : Sl 1 intCells w.heap.size w v xs := (OwnB.own (enc := intCells) (sz := 1) (fun _ => rfl) h).sl

set_option maxRecDepth 100000 in
set_option maxHeartbeats 8000000 in
theorem l9Lengths_any (xs : List Mt) (v : Value) (at_ : Nat) (B : Nat) (w : World) (hv : kMt.Rd B w v xs) (hB : B ≤ w.heap.size) (hn : xs.length ≤ 1048576) (hat : at_ < xs.length) (hsh : xs.all shP = true) :
    Calls Try.prog 77 #[v, .int .i64 at_] w fun en w' => en = .returned (.int .i64 (lesN xs (endP xs[at_]) (lenE xs[at_]))) ∧ Below w.heap.size w w' := by
  obtain ⟨p, cap, rfl⟩ := hv.form
  obtain ⟨_, hm1, hm2⟩ := hv.max
  unfold maxLen at hm2
  have HV := Lib.hid hv
  have HSH := Lib.hid (List.all_eq_true.1 hsh)
  have HEND := Lib.hid (seenL_len hsh (endP xs[at_]) (lenE xs[at_]))
  obtain ⟨b, off, q', d', q2', d2', r', e', rfl, hb, g0, g1, g2, hin'⟩ := kMt_get hv hat
  have hsy := HSH.out _ (List.getElem_mem hat)
  obtain ⟨y, ey⟩ : ∃ y, y = xs[at_] := ⟨_, rfl⟩
  rw [← ey] at g0 g1 g2 hin' hsy HEND ⊢
  obtain ⟨Y, eY⟩ : ∃ Y, Y = endP y := ⟨_, rfl⟩
  have eo' : y.w.es.length = lenE y := rfl
  rw [← eY] at HEND ⊢
  rw [eo'] at g1
  have hax : (at_ : Int) < (xs.length : Int) := by omega
  obtain ⟨W, eW⟩ : ∃ W, W = w.alloc (.cells #[] 3) := ⟨_, rfl⟩
  have kW : Below w.heap.size w W := by rw [eW]; exact (Below.refl _ _).alloc (Nat.le_refl _) _
  have k1 := keepc kW (by omega) g1
  have HIN2 := Lib.hid hin'
  have HSY := Lib.hid hsy
  have HEY2 := Lib.hid eY
  have HG := Lib.hid (fun (E : World) (hE : Below w.heap.size w E) => (⟨keepc hE (by omega) g0, keepc hE (by omega) g1, keepc hE (by omega) g2⟩ : E.cell? ⟨b, off + at_ * 3, none⟩ = some (.slice q' y.w.ns.length d') ∧ E.cell? ⟨b, off + at_ * 3 + 1, none⟩ = some (.slice q2' (lenE y) d2') ∧ E.cell? ⟨b, off + at_ * 3 + 2, none⟩ = some (.slice r' y.bs.length e')))
  have EW := Lib.hid eW
  clear eW hv hsh eY g0 g1 g2 hin' hsy ey
  go_enter Try.func77, Try.ntmps77
  go_upto_region 2 with fail
  rw [← EW.out]
  go_wp2_with fail
  go_loopw [5, 7] (fun sn ii wr => ∃ (i : Nat) (F : List Nat), i ≤ xs.length ∧ ii = .int .i64 i ∧ RowKit.Hid (OwnB 1 intCells 3 wr sn (seenL xs Y (lenE y) i) F) ∧ RowKit.Hid (∀ y ∈ F, w.heap.size ≤ y) ∧ RowKit.Hid (Below w.heap.size w wr)) (fun _ ii _ => xs.length - (intOf ii).toNat)
  case atStart => exact ⟨0, [], Nat.zero_le _, rfl, Lib.hid ⟨_, 0, rfl, Nat.le_refl _, Nat.zero_le _, .inl ⟨rfl, rfl, rfl⟩⟩, Lib.hid (by simp), Lib.hid kW⟩
  case round =>
    obtain ⟨i, F, hi, rfl, HA, HF, HB⟩ := hrel
    have hsz := HB.out.size
    by_cases hlt : i < xs.length
    · have hil : (i : Int) < (xs.length : Int) := by omega
      have HLT := Lib.hid (show i + 1 ≤ xs.length from hlt)
      obtain ⟨b0, off0, q, d, q2, d2, r, e, ee, hb0, c0, c1, c2, hin⟩ := kMt_get (HV.out.to (HB.out.mono hB) (Nat.le_refl _)) hlt
      cases ee
      have hsx := HSH.out _ (List.getElem_mem hlt)
      have hyes := seenL_yes (xs := xs) (Y := Y) (own := lenE y) hlt
      have hno := seenL_no (xs := xs) (Y := Y) (own := lenE y) hlt
      obtain ⟨x, ex⟩ : ∃ x, x = xs[i]'hlt := ⟨_, rfl⟩
      rw [← ex] at c0 c1 c2 hin hsx hyes hno
      have HIN := Lib.hid hin
      have HSX := Lib.hid hsx
      have HYES := Lib.hid (fun h : lenE x < (lenE y) ∧ endP x = Y ∧ (lenE x : Int) ∉ seenL xs Y (lenE y) i => hyes h.1 h.2.1 h.2.2)
      have HNO := Lib.hid hno
      obtain ⟨ps, cs, rfl⟩ := HA.out.sl.form
      have HSL := Lib.hid HA.out.sl
      have hbr : b < wr.heap.size := by omega
      have HK := Lib.hid (fun (E : World) (hE : Below wr.heap.size wr E) => (⟨⟨keepc hE hbr c0, keepc hE hbr c1, keepc hE hbr c2⟩, HG.out E (HB.out.trans (hE.mono hsz))⟩ : (E.cell? ⟨b, off + i * 3, none⟩ = some (.slice q x.w.ns.length d) ∧ E.cell? ⟨b, off + i * 3 + 1, none⟩ = some (.slice q2 (lenE x) d2) ∧ E.cell? ⟨b, off + i * 3 + 2, none⟩ = some (.slice r x.bs.length e)) ∧ E.cell? ⟨b, off + at_ * 3, none⟩ = some (.slice q' y.w.ns.length d') ∧ E.cell? ⟨b, off + at_ * 3 + 1, none⟩ = some (.slice q2' (lenE y) d2') ∧ E.cell? ⟨b, off + at_ * 3 + 2, none⟩ = some (.slice r' y.bs.length e')))
      have ex' : x.w.es.length = lenE x := rfl
      have HCC := Lib.hid (fun (E : World) (hE : Below wr.heap.size wr E) => hE)
      rw [ex'] at c1
      clear c0 c2 hin hsx hyes hno ex
      by_cases h1 : lenE x < (lenE y)
      · have h1' : (lenE x : Int) < ((lenE y : Nat) : Int) := by omega
        by_cases h2 : endP x = Y
        · have CSM := Lib.hid (fun (E : World) (hE : Below wr.heap.size wr E) => ((l9Same_any x y (.agg #[.slice q x.w.ns.length d, .slice q2 (lenE x) d2, .slice r x.bs.length e]) (.agg #[.slice q' y.w.ns.length d', .slice q2' (lenE y) d2', .slice r' y.bs.length e']) B E (HIN.out.to (hE.mono (by omega)) (Nat.le_refl _)) (HIN2.out.to ((HB.out.trans (hE.mono hsz)).mono hB) (Nat.le_refl _)) (by have := hE.size; omega) HSX.out HSY.out).mono (fun en w' h => ⟨h.1.trans (by rw [← HEY2.out, decide_eq_true h2]), hE.trans (h.2.mono hE.size)⟩) : Calls Try.prog 84 #[.agg #[.slice q x.w.ns.length d, .slice q2 (lenE x) d2, .slice r x.bs.length e], .agg #[.slice q' y.w.ns.length d', .slice q2' (lenE y) d2', .slice r' y.bs.length e']] E (fun en w' => en = .returned (.bool true) ∧ Below wr.heap.size wr w')))
          by_cases h3 : (lenE x : Int) ∈ seenL xs Y (lenE y) i
          · have CIN := Lib.hid (fun (E : World) (hE : Below wr.heap.size wr E) => ((l9In_any (seenL xs Y (lenE y) i) (lenE x : Int) _ E.heap.size E ((HSL.out.below hE).mono hE.size)).mono (fun en w' h => ⟨h.1.trans (by rw [decide_eq_true h3]), h.2 ▸ hE⟩) : Calls Try.prog 107 #[.slice ps (seenL xs Y (lenE y) i).length cs, .int .i64 (lenE x : Int)] E (fun en w' => en = .returned (.bool true) ∧ Below wr.heap.size wr w')))
            have HC := show ¬ (lenE x < (lenE y) ∧ endP x = Y ∧ (lenE x : Int) ∉ seenL xs Y (lenE y) i) from fun h => h.2.2 h3
            go_upto_region 7 with fail
            go_cut [49] (fun s wx => s = .bool false ∧ Below wr.heap.size wr wx)
            case first =>
              refine wp_region_held_drew (S := fun w' => (w'.cell? ⟨b, off + i * 3, none⟩ = some (.slice q x.w.ns.length d) ∧ w'.cell? ⟨b, off + i * 3 + 1, none⟩ = some (.slice q2 (lenE x) d2) ∧ w'.cell? ⟨b, off + i * 3 + 2, none⟩ = some (.slice r x.bs.length e)) ∧ w'.cell? ⟨b, off + at_ * 3, none⟩ = some (.slice q' y.w.ns.length d') ∧ w'.cell? ⟨b, off + at_ * 3 + 1, none⟩ = some (.slice q2' (lenE y) d2') ∧ w'.cell? ⟨b, off + at_ * 3 + 2, none⟩ = some (.slice r' y.bs.length e')) (by kernel_rfl) ?_ (fun hHeld => ?_)
              · exact HK.out _ (show Below wr.heap.size wr _ by ((repeat (first | with_reducible assumption | with_reducible exact Below.refl _ _ | refine Below.setCell ?_ (by (first | omega | (simp; omega) | (simp; done) | fail "sml")) _ | refine Below.drew ?_ | refine Below.alloc ?_ (by (first | omega | (simp; omega) | (simp; done) | fail "sml")) _)); first | done | fail "chs"))
              (refine takeL (i := 0) (v := ?_) rfl (by kernel_rfl) (by kernel_rfl) (by kernel_rfl) (fun _ _ _ h => h) (Or.inl ⟨by kernel_rfl, ?_⟩) (by assumption) ?_; rotate_left; (focus (intro w hSw; (try dsimp only at hSw); go_simp; first | done | with_reducible rfl | fail "take")); (try simp only [Act.put, List.setIfInBounds_toArray, List.set_cons_zero, List.set_cons_succ]))
              (refine takeL (i := 1) (v := ?_) rfl (by kernel_rfl) (by kernel_rfl) (by kernel_rfl) (fun _ _ _ h => h) (Or.inl ⟨by kernel_rfl, ?_⟩) (by assumption) ?_; rotate_left; (focus (intro w hSw; (try dsimp only at hSw); go_simp; first | done | with_reducible rfl | fail "take")); (try simp only [Act.put, List.setIfInBounds_toArray, List.set_cons_zero, List.set_cons_succ]))
              (refine takeL (i := 2) (v := ?_) rfl (by kernel_rfl) (by kernel_rfl) (by kernel_rfl) (fun _ _ _ h => h) (Or.inl ⟨by kernel_rfl, ?_⟩) (by assumption) ?_; rotate_left; (focus (intro w hSw; (try dsimp only at hSw); go_simp; first | done | with_reducible rfl | fail "take")); (try simp only [Act.put, List.setIfInBounds_toArray, List.set_cons_zero, List.set_cons_succ]))
              (refine takeL (i := 3) (v := ?_) rfl (by kernel_rfl) (by kernel_rfl) (by kernel_rfl) (fun _ _ _ h => h) (Or.inl ⟨by kernel_rfl, ?_⟩) (by assumption) ?_; rotate_left; (focus (intro w hSw; (try dsimp only at hSw); go_simp; first | done | with_reducible rfl | fail "take")); (try simp only [Act.put, List.setIfInBounds_toArray, List.set_cons_zero, List.set_cons_succ]))
              (refine takeL (i := 4) (v := ?_) rfl (by kernel_rfl) (by kernel_rfl) (by kernel_rfl) (fun _ _ _ h => h) (Or.inl ⟨by kernel_rfl, ?_⟩) (by assumption) ?_; rotate_left; (focus (intro w hSw; (try dsimp only at hSw); go_simp; first | done | with_reducible rfl | fail "take")); (try simp only [Act.put, List.setIfInBounds_toArray, List.set_cons_zero, List.set_cons_succ]))
              (refine takeL (i := 5) (v := ?_) rfl (by kernel_rfl) (by kernel_rfl) (by kernel_rfl) (fun _ _ _ h => h) (Or.inl ⟨by kernel_rfl, ?_⟩) (by assumption) ?_; rotate_left; (focus (intro w hSw; (try dsimp only at hSw); go_simp; first | done | with_reducible rfl | fail "take")); (try simp only [Act.put, List.setIfInBounds_toArray, List.set_cons_zero, List.set_cons_succ]))
              (refine takeL (i := 6) (v := ?_) rfl (by kernel_rfl) (by kernel_rfl) (by kernel_rfl) (fun _ _ _ h => h) (Or.inl ⟨by kernel_rfl, ?_⟩) (by assumption) ?_; rotate_left; (focus (intro w hSw; (try dsimp only at hSw); go_simp; first | done | with_reducible rfl | fail "take")); (try simp only [Act.put, List.setIfInBounds_toArray, List.set_cons_zero, List.set_cons_succ]))
              (refine takeL (i := 7) (v := ?_) rfl (by kernel_rfl) (by kernel_rfl) (by kernel_rfl) (fun _ _ _ h => h) (Or.inl ⟨by kernel_rfl, ?_⟩) (by assumption) ?_; rotate_left; (focus (intro w hSw; (try dsimp only at hSw); go_simp; first | done | with_reducible rfl | fail "take")); (try simp only [Act.put, List.setIfInBounds_toArray, List.set_cons_zero, List.set_cons_succ]))
              (refine takeL (i := 8) (v := ?_) rfl (by kernel_rfl) (by kernel_rfl) (by kernel_rfl) (fun _ _ _ h => h) (Or.inl ⟨by kernel_rfl, ?_⟩) (by assumption) ?_; rotate_left; (focus (intro w hSw; (try dsimp only at hSw); go_simp; first | done | with_reducible rfl | fail "take")); (try simp only [Act.put, List.setIfInBounds_toArray, List.set_cons_zero, List.set_cons_succ]))
              (refine takeL (i := 9) (v := ?_) rfl (by kernel_rfl) (by kernel_rfl) (by kernel_rfl) (fun _ _ _ h => h) (Or.inl ⟨by kernel_rfl, ?_⟩) (by assumption) ?_; rotate_left; (focus (intro w hSw; (try dsimp only at hSw); go_simp; first | done | with_reducible rfl | fail "take")); (try simp only [Act.put, List.setIfInBounds_toArray, List.set_cons_zero, List.set_cons_succ]))
              (refine takeL (i := 10) (v := ?_) rfl (by kernel_rfl) (by kernel_rfl) (by kernel_rfl) (fun _ _ _ h => h) (Or.inl ⟨by kernel_rfl, ?_⟩) (by assumption) ?_; rotate_left; (focus (intro w hSw; (try dsimp only at hSw); go_simp; first | done | with_reducible rfl | fail "take")); (try simp only [Act.put, List.setIfInBounds_toArray, List.set_cons_zero, List.set_cons_succ]))
              (refine takeL (i := 11) (v := ?_) rfl (by kernel_rfl) (by kernel_rfl) (by kernel_rfl) (fun _ _ _ h => h) (Or.inl ⟨by kernel_rfl, ?_⟩) (by assumption) ?_; rotate_left; (focus (intro w hSw; (try dsimp only at hSw); go_simp; first | done | with_reducible rfl | fail "take")); (try simp only [Act.put, List.setIfInBounds_toArray, List.set_cons_zero, List.set_cons_succ]))
              (refine callL (i := 12) rfl (by kernel_rfl) (by kernel_rfl) (fun K hK => ?_); go_simp)
              go_at_call 84
              with_reducible refine (CSM.out _ (by ((repeat (first | with_reducible assumption | with_reducible exact Below.refl _ _ | refine Below.setCell ?_ (by (first | omega | (simp; omega) | (simp; done) | fail "sml")) _ | refine Below.drew ?_ | refine Below.alloc ?_ (by (first | omega | (simp; omega) | (simp; done) | fail "sml")) _)); first | done | fail "chs"))).mono ?_
              rintro en wa ⟨rfl, hka⟩
              go_wp2_with fail
              refine hK.out _ _ ?_ (fun hHeld => ?_)
              · exact HK.out _ (show Below wr.heap.size wr _ by ((repeat (first | with_reducible assumption | with_reducible exact Below.refl _ _ | refine Below.setCell ?_ (by (first | omega | (simp; omega) | (simp; done) | fail "sml")) _ | refine Below.drew ?_ | refine Below.alloc ?_ (by (first | omega | (simp; omega) | (simp; done) | fail "sml")) _)); first | done | fail "chs"))
              clear hK K
              (try simp only [Act.put, List.setIfInBounds_toArray, List.set_cons_zero, List.set_cons_succ])
              (refine takeL (i := 13) (v := ?_) rfl (by kernel_rfl) (by kernel_rfl) (by kernel_rfl) (fun _ _ _ h => h) (Or.inl ⟨by kernel_rfl, ?_⟩) (by assumption) ?_; rotate_left; (focus (intro w hSw; (try dsimp only at hSw); go_simp; first | done | with_reducible rfl | fail "take")); (try simp only [Act.put, List.setIfInBounds_toArray, List.set_cons_zero, List.set_cons_succ]))
              (refine takeL (i := 14) (v := ?_) rfl (by kernel_rfl) (by kernel_rfl) (by kernel_rfl) (fun _ _ _ h => h) (Or.inl ⟨by kernel_rfl, ?_⟩) (by assumption) ?_; rotate_left; (focus (intro w hSw; (try dsimp only at hSw); go_simp; first | done | with_reducible rfl | fail "take")); (try simp only [Act.put, List.setIfInBounds_toArray, List.set_cons_zero, List.set_cons_succ]))
              (refine takeL (i := 15) (v := ?_) rfl (by kernel_rfl) (by kernel_rfl) (by kernel_rfl) (fun _ _ _ h => h) (Or.inl ⟨by kernel_rfl, ?_⟩) (by assumption) ?_; rotate_left; (focus (intro w hSw; (try dsimp only at hSw); go_simp; first | done | with_reducible rfl | fail "take")); (try simp only [Act.put, List.setIfInBounds_toArray, List.set_cons_zero, List.set_cons_succ]))
              (refine takeL (i := 16) (v := ?_) rfl (by kernel_rfl) (by kernel_rfl) (by kernel_rfl) (fun _ _ _ h => h) (Or.inl ⟨by kernel_rfl, ?_⟩) (by assumption) ?_; rotate_left; (focus (intro w hSw; (try dsimp only at hSw); go_simp; first | done | with_reducible rfl | fail "take")); (try simp only [Act.put, List.setIfInBounds_toArray, List.set_cons_zero, List.set_cons_succ]))
              (refine callL (i := 17) rfl (by kernel_rfl) (by kernel_rfl) (fun K hK => ?_); go_simp)
              go_at_call 107
              with_reducible refine (CIN.out _ (by ((repeat (first | with_reducible assumption | with_reducible exact Below.refl _ _ | refine Below.setCell ?_ (by (first | omega | (simp; omega) | (simp; done) | fail "sml")) _ | refine Below.drew ?_ | refine Below.alloc ?_ (by (first | omega | (simp; omega) | (simp; done) | fail "sml")) _)); first | done | fail "chs"))).mono ?_
              rintro en wa ⟨rfl, hka⟩
              go_wp2_with fail
              refine hK.out _ _ ?_ (fun hHeld => ?_)
              · exact HK.out _ (show Below wr.heap.size wr _ by ((repeat (first | with_reducible assumption | with_reducible exact Below.refl _ _ | refine Below.setCell ?_ (by (first | omega | (simp; omega) | (simp; done) | fail "sml")) _ | refine Below.drew ?_ | refine Below.alloc ?_ (by (first | omega | (simp; omega) | (simp; done) | fail "sml")) _)); first | done | fail "chs"))
              clear hK K
              (try simp only [Act.put, List.setIfInBounds_toArray, List.set_cons_zero, List.set_cons_succ])
              (refine takeL (i := 18) (v := ?_) rfl (by kernel_rfl) (by kernel_rfl) (by kernel_rfl) (fun _ _ _ h => h) (Or.inl ⟨by kernel_rfl, ?_⟩) (by assumption) ?_; rotate_left; (focus (intro w hSw; (try dsimp only at hSw); go_simp; first | done | with_reducible rfl | fail "take")); (try simp only [Act.put, List.setIfInBounds_toArray, List.set_cons_zero, List.set_cons_succ]))
              (refine takeL (i := 19) (v := ?_) rfl (by kernel_rfl) (by kernel_rfl) (by kernel_rfl) (fun _ _ _ h => h) (Or.inl ⟨by kernel_rfl, ?_⟩) (by assumption) ?_; rotate_left; (focus (intro w hSw; (try dsimp only at hSw); go_simp; first | done | with_reducible rfl | fail "take")); (try simp only [Act.put, List.setIfInBounds_toArray, List.set_cons_zero, List.set_cons_succ]))
              refine wpAnyH_done (by kernel_rfl) ?_ _
              go_wp2_with fail
              go_meet
              exact ⟨rfl, by ((repeat (first | with_reducible assumption | with_reducible exact Below.refl _ _ | refine Below.setCell ?_ (by (first | omega | (simp; omega) | (simp; done) | fail "sml")) _ | refine Below.drew ?_ | refine Below.alloc ?_ (by (first | omega | (simp; omega) | (simp; done) | fail "sml")) _)); first | done | fail "chs")⟩
            case rest =>
              obtain ⟨rfl, hbx⟩ := hcut
              have HS2 := Lib.hid (HNO.out HC)
              have HA2 := Lib.hid (HA.out.below hbx)
              have HB2 := Lib.hid (HB.out.trans (hbx.mono hsz))
              go_wp2_with fail
              go_roundw
              case rel => exact ⟨i + 1, F, HLT.out, by go_num, Lib.hid (by rw [HS2.out]; exact HA2.out), HF, HB2⟩
              case measure => have := HLT.out; simp [intOf]; omega
          · have CIN := Lib.hid (fun (E : World) (hE : Below wr.heap.size wr E) => ((l9In_any (seenL xs Y (lenE y) i) (lenE x : Int) _ E.heap.size E ((HSL.out.below hE).mono hE.size)).mono (fun en w' h => ⟨h.1.trans (by rw [decide_eq_false h3]), h.2 ▸ hE⟩) : Calls Try.prog 107 #[.slice ps (seenL xs Y (lenE y) i).length cs, .int .i64 (lenE x : Int)] E (fun en w' => en = .returned (.bool false) ∧ Below wr.heap.size wr w')))
            have HC := show lenE x < (lenE y) ∧ endP x = Y ∧ (lenE x : Int) ∉ seenL xs Y (lenE y) i from ⟨h1, h2, h3⟩
            go_upto_region 7 with fail
            go_cut [49] (fun s wx => s = .bool true ∧ Below wr.heap.size wr wx)
            case first =>
              refine wp_region_held_drew (S := fun w' => (w'.cell? ⟨b, off + i * 3, none⟩ = some (.slice q x.w.ns.length d) ∧ w'.cell? ⟨b, off + i * 3 + 1, none⟩ = some (.slice q2 (lenE x) d2) ∧ w'.cell? ⟨b, off + i * 3 + 2, none⟩ = some (.slice r x.bs.length e)) ∧ w'.cell? ⟨b, off + at_ * 3, none⟩ = some (.slice q' y.w.ns.length d') ∧ w'.cell? ⟨b, off + at_ * 3 + 1, none⟩ = some (.slice q2' (lenE y) d2') ∧ w'.cell? ⟨b, off + at_ * 3 + 2, none⟩ = some (.slice r' y.bs.length e')) (by kernel_rfl) ?_ (fun hHeld => ?_)
              · exact HK.out _ (show Below wr.heap.size wr _ by ((repeat (first | with_reducible assumption | with_reducible exact Below.refl _ _ | refine Below.setCell ?_ (by (first | omega | (simp; omega) | (simp; done) | fail "sml")) _ | refine Below.drew ?_ | refine Below.alloc ?_ (by (first | omega | (simp; omega) | (simp; done) | fail "sml")) _)); first | done | fail "chs"))
              (refine takeL (i := 0) (v := ?_) rfl (by kernel_rfl) (by kernel_rfl) (by kernel_rfl) (fun _ _ _ h => h) (Or.inl ⟨by kernel_rfl, ?_⟩) (by assumption) ?_; rotate_left; (focus (intro w hSw; (try dsimp only at hSw); go_simp; first | done | with_reducible rfl | fail "take")); (try simp only [Act.put, List.setIfInBounds_toArray, List.set_cons_zero, List.set_cons_succ]))
              (refine takeL (i := 1) (v := ?_) rfl (by kernel_rfl) (by kernel_rfl) (by kernel_rfl) (fun _ _ _ h => h) (Or.inl ⟨by kernel_rfl, ?_⟩) (by assumption) ?_; rotate_left; (focus (intro w hSw; (try dsimp only at hSw); go_simp; first | done | with_reducible rfl | fail "take")); (try simp only [Act.put, List.setIfInBounds_toArray, List.set_cons_zero, List.set_cons_succ]))
              (refine takeL (i := 2) (v := ?_) rfl (by kernel_rfl) (by kernel_rfl) (by kernel_rfl) (fun _ _ _ h => h) (Or.inl ⟨by kernel_rfl, ?_⟩) (by assumption) ?_; rotate_left; (focus (intro w hSw; (try dsimp only at hSw); go_simp; first | done | with_reducible rfl | fail "take")); (try simp only [Act.put, List.setIfInBounds_toArray, List.set_cons_zero, List.set_cons_succ]))
              (refine takeL (i := 3) (v := ?_) rfl (by kernel_rfl) (by kernel_rfl) (by kernel_rfl) (fun _ _ _ h => h) (Or.inl ⟨by kernel_rfl, ?_⟩) (by assumption) ?_; rotate_left; (focus (intro w hSw; (try dsimp only at hSw); go_simp; first | done | with_reducible rfl | fail "take")); (try simp only [Act.put, List.setIfInBounds_toArray, List.set_cons_zero, List.set_cons_succ]))
              (refine takeL (i := 4) (v := ?_) rfl (by kernel_rfl) (by kernel_rfl) (by kernel_rfl) (fun _ _ _ h => h) (Or.inl ⟨by kernel_rfl, ?_⟩) (by assumption) ?_; rotate_left; (focus (intro w hSw; (try dsimp only at hSw); go_simp; first | done | with_reducible rfl | fail "take")); (try simp only [Act.put, List.setIfInBounds_toArray, List.set_cons_zero, List.set_cons_succ]))
              (refine takeL (i := 5) (v := ?_) rfl (by kernel_rfl) (by kernel_rfl) (by kernel_rfl) (fun _ _ _ h => h) (Or.inl ⟨by kernel_rfl, ?_⟩) (by assumption) ?_; rotate_left; (focus (intro w hSw; (try dsimp only at hSw); go_simp; first | done | with_reducible rfl | fail "take")); (try simp only [Act.put, List.setIfInBounds_toArray, List.set_cons_zero, List.set_cons_succ]))
              (refine takeL (i := 6) (v := ?_) rfl (by kernel_rfl) (by kernel_rfl) (by kernel_rfl) (fun _ _ _ h => h) (Or.inl ⟨by kernel_rfl, ?_⟩) (by assumption) ?_; rotate_left; (focus (intro w hSw; (try dsimp only at hSw); go_simp; first | done | with_reducible rfl | fail "take")); (try simp only [Act.put, List.setIfInBounds_toArray, List.set_cons_zero, List.set_cons_succ]))
              (refine takeL (i := 7) (v := ?_) rfl (by kernel_rfl) (by kernel_rfl) (by kernel_rfl) (fun _ _ _ h => h) (Or.inl ⟨by kernel_rfl, ?_⟩) (by assumption) ?_; rotate_left; (focus (intro w hSw; (try dsimp only at hSw); go_simp; first | done | with_reducible rfl | fail "take")); (try simp only [Act.put, List.setIfInBounds_toArray, List.set_cons_zero, List.set_cons_succ]))
              (refine takeL (i := 8) (v := ?_) rfl (by kernel_rfl) (by kernel_rfl) (by kernel_rfl) (fun _ _ _ h => h) (Or.inl ⟨by kernel_rfl, ?_⟩) (by assumption) ?_; rotate_left; (focus (intro w hSw; (try dsimp only at hSw); go_simp; first | done | with_reducible rfl | fail "take")); (try simp only [Act.put, List.setIfInBounds_toArray, List.set_cons_zero, List.set_cons_succ]))
              (refine takeL (i := 9) (v := ?_) rfl (by kernel_rfl) (by kernel_rfl) (by kernel_rfl) (fun _ _ _ h => h) (Or.inl ⟨by kernel_rfl, ?_⟩) (by assumption) ?_; rotate_left; (focus (intro w hSw; (try dsimp only at hSw); go_simp; first | done | with_reducible rfl | fail "take")); (try simp only [Act.put, List.setIfInBounds_toArray, List.set_cons_zero, List.set_cons_succ]))
              (refine takeL (i := 10) (v := ?_) rfl (by kernel_rfl) (by kernel_rfl) (by kernel_rfl) (fun _ _ _ h => h) (Or.inl ⟨by kernel_rfl, ?_⟩) (by assumption) ?_; rotate_left; (focus (intro w hSw; (try dsimp only at hSw); go_simp; first | done | with_reducible rfl | fail "take")); (try simp only [Act.put, List.setIfInBounds_toArray, List.set_cons_zero, List.set_cons_succ]))
              (refine takeL (i := 11) (v := ?_) rfl (by kernel_rfl) (by kernel_rfl) (by kernel_rfl) (fun _ _ _ h => h) (Or.inl ⟨by kernel_rfl, ?_⟩) (by assumption) ?_; rotate_left; (focus (intro w hSw; (try dsimp only at hSw); go_simp; first | done | with_reducible rfl | fail "take")); (try simp only [Act.put, List.setIfInBounds_toArray, List.set_cons_zero, List.set_cons_succ]))
              (refine callL (i := 12) rfl (by kernel_rfl) (by kernel_rfl) (fun K hK => ?_); go_simp)
              go_at_call 84
              with_reducible refine (CSM.out _ (by ((repeat (first | with_reducible assumption | with_reducible exact Below.refl _ _ | refine Below.setCell ?_ (by (first | omega | (simp; omega) | (simp; done) | fail "sml")) _ | refine Below.drew ?_ | refine Below.alloc ?_ (by (first | omega | (simp; omega) | (simp; done) | fail "sml")) _)); first | done | fail "chs"))).mono ?_
              rintro en wa ⟨rfl, hka⟩
              go_wp2_with fail
              refine hK.out _ _ ?_ (fun hHeld => ?_)
              · exact HK.out _ (show Below wr.heap.size wr _ by ((repeat (first | with_reducible assumption | with_reducible exact Below.refl _ _ | refine Below.setCell ?_ (by (first | omega | (simp; omega) | (simp; done) | fail "sml")) _ | refine Below.drew ?_ | refine Below.alloc ?_ (by (first | omega | (simp; omega) | (simp; done) | fail "sml")) _)); first | done | fail "chs"))
              clear hK K
              (try simp only [Act.put, List.setIfInBounds_toArray, List.set_cons_zero, List.set_cons_succ])
              (refine takeL (i := 13) (v := ?_) rfl (by kernel_rfl) (by kernel_rfl) (by kernel_rfl) (fun _ _ _ h => h) (Or.inl ⟨by kernel_rfl, ?_⟩) (by assumption) ?_; rotate_left; (focus (intro w hSw; (try dsimp only at hSw); go_simp; first | done | with_reducible rfl | fail "take")); (try simp only [Act.put, List.setIfInBounds_toArray, List.set_cons_zero, List.set_cons_succ]))
              (refine takeL (i := 14) (v := ?_) rfl (by kernel_rfl) (by kernel_rfl) (by kernel_rfl) (fun _ _ _ h => h) (Or.inl ⟨by kernel_rfl, ?_⟩) (by assumption) ?_; rotate_left; (focus (intro w hSw; (try dsimp only at hSw); go_simp; first | done | with_reducible rfl | fail "take")); (try simp only [Act.put, List.setIfInBounds_toArray, List.set_cons_zero, List.set_cons_succ]))
              (refine takeL (i := 15) (v := ?_) rfl (by kernel_rfl) (by kernel_rfl) (by kernel_rfl) (fun _ _ _ h => h) (Or.inl ⟨by kernel_rfl, ?_⟩) (by assumption) ?_; rotate_left; (focus (intro w hSw; (try dsimp only at hSw); go_simp; first | done | with_reducible rfl | fail "take")); (try simp only [Act.put, List.setIfInBounds_toArray, List.set_cons_zero, List.set_cons_succ]))
              (refine takeL (i := 16) (v := ?_) rfl (by kernel_rfl) (by kernel_rfl) (by kernel_rfl) (fun _ _ _ h => h) (Or.inl ⟨by kernel_rfl, ?_⟩) (by assumption) ?_; rotate_left; (focus (intro w hSw; (try dsimp only at hSw); go_simp; first | done | with_reducible rfl | fail "take")); (try simp only [Act.put, List.setIfInBounds_toArray, List.set_cons_zero, List.set_cons_succ]))
              (refine callL (i := 17) rfl (by kernel_rfl) (by kernel_rfl) (fun K hK => ?_); go_simp)
              go_at_call 107
              with_reducible refine (CIN.out _ (by ((repeat (first | with_reducible assumption | with_reducible exact Below.refl _ _ | refine Below.setCell ?_ (by (first | omega | (simp; omega) | (simp; done) | fail "sml")) _ | refine Below.drew ?_ | refine Below.alloc ?_ (by (first | omega | (simp; omega) | (simp; done) | fail "sml")) _)); first | done | fail "chs"))).mono ?_
              rintro en wa ⟨rfl, hka⟩
              go_wp2_with fail
              refine hK.out _ _ ?_ (fun hHeld => ?_)
              · exact HK.out _ (show Below wr.heap.size wr _ by ((repeat (first | with_reducible assumption | with_reducible exact Below.refl _ _ | refine Below.setCell ?_ (by (first | omega | (simp; omega) | (simp; done) | fail "sml")) _ | refine Below.drew ?_ | refine Below.alloc ?_ (by (first | omega | (simp; omega) | (simp; done) | fail "sml")) _)); first | done | fail "chs"))
              clear hK K
              (try simp only [Act.put, List.setIfInBounds_toArray, List.set_cons_zero, List.set_cons_succ])
              (refine takeL (i := 18) (v := ?_) rfl (by kernel_rfl) (by kernel_rfl) (by kernel_rfl) (fun _ _ _ h => h) (Or.inl ⟨by kernel_rfl, ?_⟩) (by assumption) ?_; rotate_left; (focus (intro w hSw; (try dsimp only at hSw); go_simp; first | done | with_reducible rfl | fail "take")); (try simp only [Act.put, List.setIfInBounds_toArray, List.set_cons_zero, List.set_cons_succ]))
              (refine takeL (i := 19) (v := ?_) rfl (by kernel_rfl) (by kernel_rfl) (by kernel_rfl) (fun _ _ _ h => h) (Or.inl ⟨by kernel_rfl, ?_⟩) (by assumption) ?_; rotate_left; (focus (intro w hSw; (try dsimp only at hSw); go_simp; first | done | with_reducible rfl | fail "take")); (try simp only [Act.put, List.setIfInBounds_toArray, List.set_cons_zero, List.set_cons_succ]))
              refine wpAnyH_done (by kernel_rfl) ?_ _
              go_wp2_with fail
              go_meet
              exact ⟨rfl, by ((repeat (first | with_reducible assumption | with_reducible exact Below.refl _ _ | refine Below.setCell ?_ (by (first | omega | (simp; omega) | (simp; done) | fail "sml")) _ | refine Below.drew ?_ | refine Below.alloc ?_ (by (first | omega | (simp; omega) | (simp; done) | fail "sml")) _)); first | done | fail "chs")⟩
            case rest =>
              obtain ⟨rfl, hbx⟩ := hcut
              have HS2 := Lib.hid (HYES.out HC)
              have HA2 := Lib.hid (HA.out.below hbx)
              have HB2 := Lib.hid (HB.out.trans (hbx.mono hsz))
              have hsx2 := hbx.size
              obtain ⟨W2, eW2⟩ : ∃ W2, W2 = wc.alloc (.cells #[.int .i64 (lenE x : Int)] 3) := ⟨_, rfl⟩
              have kW2 : Below wc.heap.size wc W2 := by rw [eW2]; exact (Below.refl _ _).alloc (Nat.le_refl _) _
              have HAP := Lib.hid (appInt (HA2.out.below kW2) (lenE x : Int) wc.heap.size 1 (by rw [eW2]; simp [go_sem]) (by have := seenL_len_le xs Y (lenE y) i; omega))
              have HB3 := Lib.hid (hbx.trans (kW2.mono hsx2))
              have HF0 := HF
              have EW2 := Lib.hid eW2
              clear kW2 eW2
              go_wp2_with (at_builtin; rw [← EW2.out]; refine wpApp rfl (.tmp 50) (.tmp 52) 43 rfl _ _ rfl rfl _ HAP.out ?_; rintro v3 w4 hr; have HR9 := Lib.hid hr; clear hr)
              obtain ⟨F', hF1, hF2, hF3⟩ := HR9.out
              have HF9 := Lib.hid (show ∀ y ∈ F', w.heap.size ≤ y from fun y hy => by
                rcases hF2 y hy with h | h
                · exact HF.out y h
                · have := HB3.out.size; omega)
              have hbe := below_app HB.out HB3.out hF3 HF.out
              go_roundw
              case rel => exact ⟨i + 1, F', HLT.out, by go_num, Lib.hid (by rw [HS2.out]; exact hF1), HF9, Lib.hid hbe⟩
              case measure => have := HLT.out; simp [intOf]; omega
        · have CSM := Lib.hid (fun (E : World) (hE : Below wr.heap.size wr E) => ((l9Same_any x y (.agg #[.slice q x.w.ns.length d, .slice q2 (lenE x) d2, .slice r x.bs.length e]) (.agg #[.slice q' y.w.ns.length d', .slice q2' (lenE y) d2', .slice r' y.bs.length e']) B E (HIN.out.to (hE.mono (by omega)) (Nat.le_refl _)) (HIN2.out.to ((HB.out.trans (hE.mono hsz)).mono hB) (Nat.le_refl _)) (by have := hE.size; omega) HSX.out HSY.out).mono (fun en w' h => ⟨h.1.trans (by rw [← HEY2.out, decide_eq_false h2]), hE.trans (h.2.mono hE.size)⟩) : Calls Try.prog 84 #[.agg #[.slice q x.w.ns.length d, .slice q2 (lenE x) d2, .slice r x.bs.length e], .agg #[.slice q' y.w.ns.length d', .slice q2' (lenE y) d2', .slice r' y.bs.length e']] E (fun en w' => en = .returned (.bool false) ∧ Below wr.heap.size wr w')))
          have HC := show ¬ (lenE x < (lenE y) ∧ endP x = Y ∧ (lenE x : Int) ∉ seenL xs Y (lenE y) i) from fun h => h2 h.2.1
          go_upto_region 7 with fail
          go_cut [49] (fun s wx => s = .bool false ∧ Below wr.heap.size wr wx)
          case first =>
            refine wp_region_held_drew (S := fun w' => (w'.cell? ⟨b, off + i * 3, none⟩ = some (.slice q x.w.ns.length d) ∧ w'.cell? ⟨b, off + i * 3 + 1, none⟩ = some (.slice q2 (lenE x) d2) ∧ w'.cell? ⟨b, off + i * 3 + 2, none⟩ = some (.slice r x.bs.length e)) ∧ w'.cell? ⟨b, off + at_ * 3, none⟩ = some (.slice q' y.w.ns.length d') ∧ w'.cell? ⟨b, off + at_ * 3 + 1, none⟩ = some (.slice q2' (lenE y) d2') ∧ w'.cell? ⟨b, off + at_ * 3 + 2, none⟩ = some (.slice r' y.bs.length e')) (by kernel_rfl) ?_ (fun hHeld => ?_)
            · exact HK.out _ (show Below wr.heap.size wr _ by ((repeat (first | with_reducible assumption | with_reducible exact Below.refl _ _ | refine Below.setCell ?_ (by (first | omega | (simp; omega) | (simp; done) | fail "sml")) _ | refine Below.drew ?_ | refine Below.alloc ?_ (by (first | omega | (simp; omega) | (simp; done) | fail "sml")) _)); first | done | fail "chs"))
            (refine takeL (i := 0) (v := ?_) rfl (by kernel_rfl) (by kernel_rfl) (by kernel_rfl) (fun _ _ _ h => h) (Or.inl ⟨by kernel_rfl, ?_⟩) (by assumption) ?_; rotate_left; (focus (intro w hSw; (try dsimp only at hSw); go_simp; first | done | with_reducible rfl | fail "take")); (try simp only [Act.put, List.setIfInBounds_toArray, List.set_cons_zero, List.set_cons_succ]))
            (refine takeL (i := 1) (v := ?_) rfl (by kernel_rfl) (by kernel_rfl) (by kernel_rfl) (fun _ _ _ h => h) (Or.inl ⟨by kernel_rfl, ?_⟩) (by assumption) ?_; rotate_left; (focus (intro w hSw; (try dsimp only at hSw); go_simp; first | done | with_reducible rfl | fail "take")); (try simp only [Act.put, List.setIfInBounds_toArray, List.set_cons_zero, List.set_cons_succ]))
            (refine takeL (i := 2) (v := ?_) rfl (by kernel_rfl) (by kernel_rfl) (by kernel_rfl) (fun _ _ _ h => h) (Or.inl ⟨by kernel_rfl, ?_⟩) (by assumption) ?_; rotate_left; (focus (intro w hSw; (try dsimp only at hSw); go_simp; first | done | with_reducible rfl | fail "take")); (try simp only [Act.put, List.setIfInBounds_toArray, List.set_cons_zero, List.set_cons_succ]))
            (refine takeL (i := 3) (v := ?_) rfl (by kernel_rfl) (by kernel_rfl) (by kernel_rfl) (fun _ _ _ h => h) (Or.inl ⟨by kernel_rfl, ?_⟩) (by assumption) ?_; rotate_left; (focus (intro w hSw; (try dsimp only at hSw); go_simp; first | done | with_reducible rfl | fail "take")); (try simp only [Act.put, List.setIfInBounds_toArray, List.set_cons_zero, List.set_cons_succ]))
            (refine takeL (i := 4) (v := ?_) rfl (by kernel_rfl) (by kernel_rfl) (by kernel_rfl) (fun _ _ _ h => h) (Or.inl ⟨by kernel_rfl, ?_⟩) (by assumption) ?_; rotate_left; (focus (intro w hSw; (try dsimp only at hSw); go_simp; first | done | with_reducible rfl | fail "take")); (try simp only [Act.put, List.setIfInBounds_toArray, List.set_cons_zero, List.set_cons_succ]))
            (refine takeL (i := 5) (v := ?_) rfl (by kernel_rfl) (by kernel_rfl) (by kernel_rfl) (fun _ _ _ h => h) (Or.inl ⟨by kernel_rfl, ?_⟩) (by assumption) ?_; rotate_left; (focus (intro w hSw; (try dsimp only at hSw); go_simp; first | done | with_reducible rfl | fail "take")); (try simp only [Act.put, List.setIfInBounds_toArray, List.set_cons_zero, List.set_cons_succ]))
            (refine takeL (i := 6) (v := ?_) rfl (by kernel_rfl) (by kernel_rfl) (by kernel_rfl) (fun _ _ _ h => h) (Or.inl ⟨by kernel_rfl, ?_⟩) (by assumption) ?_; rotate_left; (focus (intro w hSw; (try dsimp only at hSw); go_simp; first | done | with_reducible rfl | fail "take")); (try simp only [Act.put, List.setIfInBounds_toArray, List.set_cons_zero, List.set_cons_succ]))
            (refine takeL (i := 7) (v := ?_) rfl (by kernel_rfl) (by kernel_rfl) (by kernel_rfl) (fun _ _ _ h => h) (Or.inl ⟨by kernel_rfl, ?_⟩) (by assumption) ?_; rotate_left; (focus (intro w hSw; (try dsimp only at hSw); go_simp; first | done | with_reducible rfl | fail "take")); (try simp only [Act.put, List.setIfInBounds_toArray, List.set_cons_zero, List.set_cons_succ]))
            (refine takeL (i := 8) (v := ?_) rfl (by kernel_rfl) (by kernel_rfl) (by kernel_rfl) (fun _ _ _ h => h) (Or.inl ⟨by kernel_rfl, ?_⟩) (by assumption) ?_; rotate_left; (focus (intro w hSw; (try dsimp only at hSw); go_simp; first | done | with_reducible rfl | fail "take")); (try simp only [Act.put, List.setIfInBounds_toArray, List.set_cons_zero, List.set_cons_succ]))
            (refine takeL (i := 9) (v := ?_) rfl (by kernel_rfl) (by kernel_rfl) (by kernel_rfl) (fun _ _ _ h => h) (Or.inl ⟨by kernel_rfl, ?_⟩) (by assumption) ?_; rotate_left; (focus (intro w hSw; (try dsimp only at hSw); go_simp; first | done | with_reducible rfl | fail "take")); (try simp only [Act.put, List.setIfInBounds_toArray, List.set_cons_zero, List.set_cons_succ]))
            (refine takeL (i := 10) (v := ?_) rfl (by kernel_rfl) (by kernel_rfl) (by kernel_rfl) (fun _ _ _ h => h) (Or.inl ⟨by kernel_rfl, ?_⟩) (by assumption) ?_; rotate_left; (focus (intro w hSw; (try dsimp only at hSw); go_simp; first | done | with_reducible rfl | fail "take")); (try simp only [Act.put, List.setIfInBounds_toArray, List.set_cons_zero, List.set_cons_succ]))
            (refine takeL (i := 11) (v := ?_) rfl (by kernel_rfl) (by kernel_rfl) (by kernel_rfl) (fun _ _ _ h => h) (Or.inl ⟨by kernel_rfl, ?_⟩) (by assumption) ?_; rotate_left; (focus (intro w hSw; (try dsimp only at hSw); go_simp; first | done | with_reducible rfl | fail "take")); (try simp only [Act.put, List.setIfInBounds_toArray, List.set_cons_zero, List.set_cons_succ]))
            (refine callL (i := 12) rfl (by kernel_rfl) (by kernel_rfl) (fun K hK => ?_); go_simp)
            go_at_call 84
            with_reducible refine (CSM.out _ (by ((repeat (first | with_reducible assumption | with_reducible exact Below.refl _ _ | refine Below.setCell ?_ (by (first | omega | (simp; omega) | (simp; done) | fail "sml")) _ | refine Below.drew ?_ | refine Below.alloc ?_ (by (first | omega | (simp; omega) | (simp; done) | fail "sml")) _)); first | done | fail "chs"))).mono ?_
            rintro en wa ⟨rfl, hka⟩
            go_wp2_with fail
            refine hK.out _ _ ?_ (fun hHeld => ?_)
            · exact HK.out _ (show Below wr.heap.size wr _ by ((repeat (first | with_reducible assumption | with_reducible exact Below.refl _ _ | refine Below.setCell ?_ (by (first | omega | (simp; omega) | (simp; done) | fail "sml")) _ | refine Below.drew ?_ | refine Below.alloc ?_ (by (first | omega | (simp; omega) | (simp; done) | fail "sml")) _)); first | done | fail "chs"))
            clear hK K
            (try simp only [Act.put, List.setIfInBounds_toArray, List.set_cons_zero, List.set_cons_succ])
            (refine takeL (i := 13) (v := ?_) rfl (by kernel_rfl) (by kernel_rfl) (by kernel_rfl) (fun _ _ _ h => h) (Or.inl ⟨by kernel_rfl, ?_⟩) (by assumption) ?_; rotate_left; (focus (intro w hSw; (try dsimp only at hSw); go_simp; first | done | with_reducible rfl | fail "take")); (try simp only [Act.put, List.setIfInBounds_toArray, List.set_cons_zero, List.set_cons_succ]))
            (refine takeL (i := 14) (v := ?_) rfl (by kernel_rfl) (by kernel_rfl) (by kernel_rfl) (fun _ _ _ h => h) (Or.inl ⟨by kernel_rfl, ?_⟩) (by assumption) ?_; rotate_left; (focus (intro w hSw; (try dsimp only at hSw); go_simp; first | done | with_reducible rfl | fail "take")); (try simp only [Act.put, List.setIfInBounds_toArray, List.set_cons_zero, List.set_cons_succ]))
            (refine takeL (i := 15) (v := undef) rfl (by kernel_rfl) (by kernel_rfl) (by kernel_rfl) (fun _ _ _ h => h) (Or.inr ⟨by kernel_rfl, rfl⟩) (by assumption) ?_; (try simp only [Act.put, List.setIfInBounds_toArray, List.set_cons_zero, List.set_cons_succ]))
            (refine takeL (i := 16) (v := undef) rfl (by kernel_rfl) (by kernel_rfl) (by kernel_rfl) (fun _ _ _ h => h) (Or.inr ⟨by kernel_rfl, rfl⟩) (by assumption) ?_; (try simp only [Act.put, List.setIfInBounds_toArray, List.set_cons_zero, List.set_cons_succ]))
            (refine takeL (i := 17) (v := undef) rfl (by kernel_rfl) (by kernel_rfl) (by kernel_rfl) (fun _ _ _ h => h) (Or.inr ⟨by kernel_rfl, rfl⟩) (by assumption) ?_; (try simp only [Act.put, List.setIfInBounds_toArray, List.set_cons_zero, List.set_cons_succ]))
            (refine takeL (i := 18) (v := undef) rfl (by kernel_rfl) (by kernel_rfl) (by kernel_rfl) (fun _ _ _ h => h) (Or.inr ⟨by kernel_rfl, rfl⟩) (by assumption) ?_; (try simp only [Act.put, List.setIfInBounds_toArray, List.set_cons_zero, List.set_cons_succ]))
            (refine takeL (i := 19) (v := ?_) rfl (by kernel_rfl) (by kernel_rfl) (by kernel_rfl) (fun _ _ _ h => h) (Or.inl ⟨by kernel_rfl, ?_⟩) (by assumption) ?_; rotate_left; (focus (intro w hSw; (try dsimp only at hSw); go_simp; first | done | with_reducible rfl | fail "take")); (try simp only [Act.put, List.setIfInBounds_toArray, List.set_cons_zero, List.set_cons_succ]))
            refine wpAnyH_done (by kernel_rfl) ?_ _
            go_wp2_with fail
            go_meet
            exact ⟨rfl, by ((repeat (first | with_reducible assumption | with_reducible exact Below.refl _ _ | refine Below.setCell ?_ (by (first | omega | (simp; omega) | (simp; done) | fail "sml")) _ | refine Below.drew ?_ | refine Below.alloc ?_ (by (first | omega | (simp; omega) | (simp; done) | fail "sml")) _)); first | done | fail "chs")⟩
          case rest =>
            obtain ⟨rfl, hbx⟩ := hcut
            have HS2 := Lib.hid (HNO.out HC)
            have HA2 := Lib.hid (HA.out.below hbx)
            have HB2 := Lib.hid (HB.out.trans (hbx.mono hsz))
            go_wp2_with fail
            go_roundw
            case rel => exact ⟨i + 1, F, HLT.out, by go_num, Lib.hid (by rw [HS2.out]; exact HA2.out), HF, HB2⟩
            case measure => have := HLT.out; simp [intOf]; omega
      · have h1' : ¬ (lenE x : Int) < ((lenE y : Nat) : Int) := by omega
        have HC := show ¬ (lenE x < (lenE y) ∧ endP x = Y ∧ (lenE x : Int) ∉ seenL xs Y (lenE y) i) from fun h => h1 h.1
        go_upto_region 7 with fail
        go_cut [49] (fun s wx => s = .bool false ∧ Below wr.heap.size wr wx)
        case first =>
          refine wp_region_held_drew (S := fun w' => (w'.cell? ⟨b, off + i * 3, none⟩ = some (.slice q x.w.ns.length d) ∧ w'.cell? ⟨b, off + i * 3 + 1, none⟩ = some (.slice q2 (lenE x) d2) ∧ w'.cell? ⟨b, off + i * 3 + 2, none⟩ = some (.slice r x.bs.length e)) ∧ w'.cell? ⟨b, off + at_ * 3, none⟩ = some (.slice q' y.w.ns.length d') ∧ w'.cell? ⟨b, off + at_ * 3 + 1, none⟩ = some (.slice q2' (lenE y) d2') ∧ w'.cell? ⟨b, off + at_ * 3 + 2, none⟩ = some (.slice r' y.bs.length e')) (by kernel_rfl) ?_ (fun hHeld => ?_)
          · exact HK.out _ (show Below wr.heap.size wr _ by ((repeat (first | with_reducible assumption | with_reducible exact Below.refl _ _ | refine Below.setCell ?_ (by (first | omega | (simp; omega) | (simp; done) | fail "sml")) _ | refine Below.drew ?_ | refine Below.alloc ?_ (by (first | omega | (simp; omega) | (simp; done) | fail "sml")) _)); first | done | fail "chs"))
          (refine takeL (i := 0) (v := ?_) rfl (by kernel_rfl) (by kernel_rfl) (by kernel_rfl) (fun _ _ _ h => h) (Or.inl ⟨by kernel_rfl, ?_⟩) (by assumption) ?_; rotate_left; (focus (intro w hSw; (try dsimp only at hSw); go_simp; first | done | with_reducible rfl | fail "take")); (try simp only [Act.put, List.setIfInBounds_toArray, List.set_cons_zero, List.set_cons_succ]))
          (refine takeL (i := 1) (v := ?_) rfl (by kernel_rfl) (by kernel_rfl) (by kernel_rfl) (fun _ _ _ h => h) (Or.inl ⟨by kernel_rfl, ?_⟩) (by assumption) ?_; rotate_left; (focus (intro w hSw; (try dsimp only at hSw); go_simp; first | done | with_reducible rfl | fail "take")); (try simp only [Act.put, List.setIfInBounds_toArray, List.set_cons_zero, List.set_cons_succ]))
          (refine takeL (i := 2) (v := ?_) rfl (by kernel_rfl) (by kernel_rfl) (by kernel_rfl) (fun _ _ _ h => h) (Or.inl ⟨by kernel_rfl, ?_⟩) (by assumption) ?_; rotate_left; (focus (intro w hSw; (try dsimp only at hSw); go_simp; first | done | with_reducible rfl | fail "take")); (try simp only [Act.put, List.setIfInBounds_toArray, List.set_cons_zero, List.set_cons_succ]))
          (refine takeL (i := 3) (v := ?_) rfl (by kernel_rfl) (by kernel_rfl) (by kernel_rfl) (fun _ _ _ h => h) (Or.inl ⟨by kernel_rfl, ?_⟩) (by assumption) ?_; rotate_left; (focus (intro w hSw; (try dsimp only at hSw); go_simp; first | done | with_reducible rfl | fail "take")); (try simp only [Act.put, List.setIfInBounds_toArray, List.set_cons_zero, List.set_cons_succ]))
          (refine takeL (i := 4) (v := undef) rfl (by kernel_rfl) (by kernel_rfl) (by kernel_rfl) (fun _ _ _ h => h) (Or.inr ⟨by kernel_rfl, rfl⟩) (by assumption) ?_; (try simp only [Act.put, List.setIfInBounds_toArray, List.set_cons_zero, List.set_cons_succ]))
          (refine takeL (i := 5) (v := undef) rfl (by kernel_rfl) (by kernel_rfl) (by kernel_rfl) (fun _ _ _ h => h) (Or.inr ⟨by kernel_rfl, rfl⟩) (by assumption) ?_; (try simp only [Act.put, List.setIfInBounds_toArray, List.set_cons_zero, List.set_cons_succ]))
          (refine takeL (i := 6) (v := undef) rfl (by kernel_rfl) (by kernel_rfl) (by kernel_rfl) (fun _ _ _ h => h) (Or.inr ⟨by kernel_rfl, rfl⟩) (by assumption) ?_; (try simp only [Act.put, List.setIfInBounds_toArray, List.set_cons_zero, List.set_cons_succ]))
          (refine takeL (i := 7) (v := undef) rfl (by kernel_rfl) (by kernel_rfl) (by kernel_rfl) (fun _ _ _ h => h) (Or.inr ⟨by kernel_rfl, rfl⟩) (by assumption) ?_; (try simp only [Act.put, List.setIfInBounds_toArray, List.set_cons_zero, List.set_cons_succ]))
          (refine takeL (i := 8) (v := undef) rfl (by kernel_rfl) (by kernel_rfl) (by kernel_rfl) (fun _ _ _ h => h) (Or.inr ⟨by kernel_rfl, rfl⟩) (by assumption) ?_; (try simp only [Act.put, List.setIfInBounds_toArray, List.set_cons_zero, List.set_cons_succ]))
          (refine takeL (i := 9) (v := undef) rfl (by kernel_rfl) (by kernel_rfl) (by kernel_rfl) (fun _ _ _ h => h) (Or.inr ⟨by kernel_rfl, rfl⟩) (by assumption) ?_; (try simp only [Act.put, List.setIfInBounds_toArray, List.set_cons_zero, List.set_cons_succ]))
          (refine takeL (i := 10) (v := undef) rfl (by kernel_rfl) (by kernel_rfl) (by kernel_rfl) (fun _ _ _ h => h) (Or.inr ⟨by kernel_rfl, rfl⟩) (by assumption) ?_; (try simp only [Act.put, List.setIfInBounds_toArray, List.set_cons_zero, List.set_cons_succ]))
          (refine takeL (i := 11) (v := undef) rfl (by kernel_rfl) (by kernel_rfl) (by kernel_rfl) (fun _ _ _ h => h) (Or.inr ⟨by kernel_rfl, rfl⟩) (by assumption) ?_; (try simp only [Act.put, List.setIfInBounds_toArray, List.set_cons_zero, List.set_cons_succ]))
          (refine takeL (i := 12) (v := undef) rfl (by kernel_rfl) (by kernel_rfl) (by kernel_rfl) (fun _ _ _ h => h) (Or.inr ⟨by kernel_rfl, rfl⟩) (by assumption) ?_; (try simp only [Act.put, List.setIfInBounds_toArray, List.set_cons_zero, List.set_cons_succ]))
          (refine takeL (i := 13) (v := ?_) rfl (by kernel_rfl) (by kernel_rfl) (by kernel_rfl) (fun _ _ _ h => h) (Or.inl ⟨by kernel_rfl, ?_⟩) (by assumption) ?_; rotate_left; (focus (intro w hSw; (try dsimp only at hSw); go_simp; first | done | with_reducible rfl | fail "take")); (try simp only [Act.put, List.setIfInBounds_toArray, List.set_cons_zero, List.set_cons_succ]))
          (refine takeL (i := 14) (v := ?_) rfl (by kernel_rfl) (by kernel_rfl) (by kernel_rfl) (fun _ _ _ h => h) (Or.inl ⟨by kernel_rfl, ?_⟩) (by assumption) ?_; rotate_left; (focus (intro w hSw; (try dsimp only at hSw); go_simp; first | done | with_reducible rfl | fail "take")); (try simp only [Act.put, List.setIfInBounds_toArray, List.set_cons_zero, List.set_cons_succ]))
          (refine takeL (i := 15) (v := undef) rfl (by kernel_rfl) (by kernel_rfl) (by kernel_rfl) (fun _ _ _ h => h) (Or.inr ⟨by kernel_rfl, rfl⟩) (by assumption) ?_; (try simp only [Act.put, List.setIfInBounds_toArray, List.set_cons_zero, List.set_cons_succ]))
          (refine takeL (i := 16) (v := undef) rfl (by kernel_rfl) (by kernel_rfl) (by kernel_rfl) (fun _ _ _ h => h) (Or.inr ⟨by kernel_rfl, rfl⟩) (by assumption) ?_; (try simp only [Act.put, List.setIfInBounds_toArray, List.set_cons_zero, List.set_cons_succ]))
          (refine takeL (i := 17) (v := undef) rfl (by kernel_rfl) (by kernel_rfl) (by kernel_rfl) (fun _ _ _ h => h) (Or.inr ⟨by kernel_rfl, rfl⟩) (by assumption) ?_; (try simp only [Act.put, List.setIfInBounds_toArray, List.set_cons_zero, List.set_cons_succ]))
          (refine takeL (i := 18) (v := undef) rfl (by kernel_rfl) (by kernel_rfl) (by kernel_rfl) (fun _ _ _ h => h) (Or.inr ⟨by kernel_rfl, rfl⟩) (by assumption) ?_; (try simp only [Act.put, List.setIfInBounds_toArray, List.set_cons_zero, List.set_cons_succ]))
          (refine takeL (i := 19) (v := ?_) rfl (by kernel_rfl) (by kernel_rfl) (by kernel_rfl) (fun _ _ _ h => h) (Or.inl ⟨by kernel_rfl, ?_⟩) (by assumption) ?_; rotate_left; (focus (intro w hSw; (try dsimp only at hSw); go_simp; first | done | with_reducible rfl | fail "take")); (try simp only [Act.put, List.setIfInBounds_toArray, List.set_cons_zero, List.set_cons_succ]))
          refine wpAnyH_done (by kernel_rfl) ?_ _
          go_wp2_with fail
          go_meet
          exact ⟨rfl, by ((repeat (first | with_reducible assumption | with_reducible exact Below.refl _ _ | refine Below.setCell ?_ (by (first | omega | (simp; omega) | (simp; done) | fail "sml")) _ | refine Below.drew ?_ | refine Below.alloc ?_ (by (first | omega | (simp; omega) | (simp; done) | fail "sml")) _)); first | done | fail "chs")⟩
        case rest =>
          obtain ⟨rfl, hbx⟩ := hcut
          have HS2 := Lib.hid (HNO.out HC)
          have HA2 := Lib.hid (HA.out.below hbx)
          have HB2 := Lib.hid (HB.out.trans (hbx.mono hsz))
          go_wp2_with fail
          go_roundw
          case rel => exact ⟨i + 1, F, HLT.out, by go_num, Lib.hid (by rw [HS2.out]; exact HA2.out), HF, HB2⟩
          case measure => have := HLT.out; simp [intOf]; omega
    · obtain rfl : i = xs.length := by omega
      have hil : ¬ (xs.length : Int) < (xs.length : Int) := by omega
      obtain ⟨ps, cs, rfl⟩ := HA.out.sl.form
      rw [HEND.out]
      go_wp2_with fail
      go_ret
      exact ⟨rfl, HB.out⟩
end Go.Proofs.Ytggpnnoldjpmcaa
