/- Marks on tables; what is held of them. -/
import Derived.Test.YtfdkmngkpihpbaaTb
import Derived.Test.YtfdkmngkpihpbaaKdUp
namespace Go.Proofs.Ytfdkmngkpihpbaa
open Go.RowKit

theorem kStr_orow {w : World} : ∀ {xs : List ByteArray} {c : Nat → Option Value} {F : List Nat}, kStr.ORow w xs c F ↔ F = [] ∧ ∀ i (h : i < xs.length), c i = some (.string xs[i])
  | [], c, F => by
    constructor
    · intro h; exact ⟨h, fun i hi => by simp at hi⟩
    · intro h; exact h.1
  | x :: xs, c, F => by
    constructor
    · rintro ⟨cs, F1, F2, rfl, _, h0, ⟨rfl, rfl⟩, h2⟩
      obtain ⟨rfl, h3⟩ := kStr_orow.1 h2
      refine ⟨rfl, fun i hi => ?_⟩
      cases i with
      | zero => exact h0 0 _ rfl
      | succ i => exact h3 i (by simpa using hi)
    · rintro ⟨rfl, h⟩
      refine ⟨[.string x], [], [], rfl, by simp, fun j u hu => ?_, ⟨rfl, rfl⟩, kStr_orow.2 ⟨rfl, fun i hi => ?_⟩⟩
      · cases j with
        | zero => simp at hu; subst hu; exact h 0 (by simp)
        | succ j => simp at hu
      · exact h (i + 1) (by simpa using hi)
theorem kStr_ow {w : World} {v : Value} {xs : List ByteArray} {F : List Nat} : kStr.Ow w v xs F ↔ OwnSl 1 strCells w v xs F := by
  constructor
  · rintro ⟨p, cap, h1, h2, h3, h4⟩
    refine ⟨p, _, cap, h1, rfl, h2, h3, ?_⟩
    rcases h4 with ⟨rfl, rfl⟩ | ⟨b, off, F', e, rfl, hn, hlt, hf, ho⟩
    · exact .inl ⟨rfl, rfl⟩
    · obtain ⟨rfl, h5⟩ := kStr_orow.1 ho
      refine .inr ⟨b, off, e, rfl, hlt, hf, fun i hi j x hx => ?_⟩
      cases j with
      | zero => simp [strCells] at hx; subst hx; simpa using h5 i hi
      | succ j => simp [strCells] at hx
  · rintro ⟨p, len, cap, h1, rfl, h2, h3, h4⟩
    refine ⟨p, cap, h1, h2, h3, ?_⟩
    rcases h4 with ⟨rfl, rfl⟩ | ⟨b, off, e, rfl, hlt, hf, h5⟩
    · exact .inl ⟨rfl, rfl⟩
    · refine .inr ⟨b, off, [], e, rfl, by simp, hlt, hf, kStr_orow.2 ⟨rfl, fun i hi => ?_⟩⟩
      have := h5 i hi 0 _ rfl
      simpa using this
def mkStr (m : Int) (k : Nat) : ByteArray := mt (m + k)
set_option maxRecDepth 100000 in
set_option maxHeartbeats 2000000 in
theorem markStringS_any (xs : List ByteArray) (v : Value) (F : List Nat) (m : Int) (w : World) (hv : OwnSl 1 strCells w v xs F) (hm : 1 ≤ m) (hb : m + xs.length ≤ 100000000) :
    Calls Try.prog 41 #[v, .int .i64 m] w fun e w' => e = .returned (.int .i64 (m + xs.length)) ∧ OwnSl 1 strCells w' v ((List.range xs.length).map (mkStr m)) F ∧ Chg F w w' := by
  obtain ⟨p, cap, rfl⟩ := hv.sl.form
  go_enter Try.func41, Try.ntmps41
  go_wp2_with fail
  go_loopw [1, 5] (fun kk i wr => ∃ k : Nat, k ≤ xs.length ∧ i = .int .i64 k ∧ kk = .int .i64 (m + (k : Int)) ∧ OwnSl 1 strCells wr (.slice p xs.length cap) (half (mkStr m) xs k) F ∧ Chg F w wr) (fun _ i _ => xs.length - (intOf i).toNat)
  case atStart => exact ⟨0, Nat.zero_le _, rfl, by simp, by rw [half_zero]; exact hv, Chg.refl _ _⟩
  case round =>
    obtain ⟨k, hk, rfl, rfl, hown, hch⟩ := hrel
    have HC := Lib.hid hch
    clear hch
    by_cases hlt : k < xs.length
    · skip
      obtain ⟨b, off, rfl, rfl, hbb, hfz, hcells⟩ := hown.elem (k := k) (by rw [half_length _ _ hk]; exact hlt)
      have own0 : OwnSl 1 strCells wr (.slice (some ⟨b, off, none⟩) xs.length cap) ((half (mkStr m) xs k).set k xs[k]) [b] := by
        have e := half_at (mkStr m) xs hlt (by rw [half_length _ _ hk]; exact hlt)
        rw [← e, List.set_getElem_self]; exact hown
      have hlen := half_length (mkStr m) xs hk
      obtain ⟨x, ex⟩ : ∃ x, x = xs[k] := ⟨_, rfl⟩
      rw [← ex] at own0
      clear ex hcells hown
      have HL := Lib.hid (show k < (half (mkStr m) xs k).length by rw [hlen]; exact hlt)
      clear hlen
      have OW := Lib.hid own0
      clear own0
      go_wp2_with fail
      refine (markText_any _ _ (by omega) (by omega)).mono ?_
      rintro e w1 ⟨rfl, hb1⟩
      have hsz1 := hb1.size
      have OV : RowKit.Hid (OwnSl 1 strCells w1 (.slice (some ⟨b, off, none⟩) xs.length cap) ((half (mkStr m) xs k).set k x) [b]) := Lib.hid ((OW.out).below (hb1.mono (by simp)))
      have HCN := Lib.hid ((HC.out).then_below (hb1.mono (by simp)))
      clear hb1 OW HC
      have OW := OV
      have HC := HCN
      clear OV HCN
      have cz0 := OW.out.setcell HL.out (j := 0) (x := .string x) rfl
      simp only [Nat.mul_one, Nat.add_zero] at cz0
      obtain ⟨c0, z0⟩ := cz0
      go_wp2_with fail
      go_roundw
      case rel => exact ⟨k + 1, by omega, by go_num, congrArg (Value.int .i64) (by omega), (by rw [← half_succ _ _ hlt]; exact ((OW.out).restore1 HL.out (fun _ => rfl) (mt (m + (k : Int))) (.string (mt (m + (k : Int)))) rfl)), ((HC.out).setCell (p := ⟨b, off + k, none⟩) (by simp) (.string (mt (m + (k : Int)))))⟩
      case measure => simp [intOf]; omega
    · obtain rfl : k = xs.length := by omega
      rw [half_full] at hown
      have HO := Lib.hid hown
      clear hown
      go_wp2_with fail
      go_ret
      exact ⟨rfl, HO.out, HC.out⟩

set_option maxRecDepth 100000 in
set_option maxHeartbeats 2000000 in
theorem heldStringS_any (n : Nat) (v : Value) (m : Int) (B : Nat) (w : World) (hv : kStr.Rd B w v ((List.range n).map (mkStr m))) (hB : B ≤ w.heap.size) (hm : 1 ≤ m) (hb : m + (n : Int) ≤ 100000000) :
    Calls Try.prog 78 #[v, .int .i64 m] w fun e w' => e = .returned (.int .i64 (m + (n : Int))) ∧ Below w.heap.size w w' := by
  obtain ⟨p, cap, hve⟩ := hv.form
  rw [show ((List.range n).map (mkStr m)).length = n by simp] at hve
  subst hve
  have HV := Lib.hid hv
  clear hv
  go_enter Try.func78, Try.ntmps78
  go_wp2_with fail
  go_loopw [1, 5] (fun kk i wr => ∃ k : Nat, k ≤ n ∧ i = .int .i64 k ∧ kk = .int .i64 (m + (k : Int)) ∧ Below w.heap.size w wr) (fun _ i _ => n - (intOf i).toNat)
  case atStart => exact ⟨0, Nat.zero_le _, rfl, by simp, Below.refl _ _⟩
  case round =>
    obtain ⟨k, hk, rfl, rfl, hbw⟩ := hrel
    have hsz := hbw.size
    have HBW := Lib.hid hbw
    clear hbw
    by_cases hlt : k < n
    · obtain ⟨b, off, rfl, hb', c0⟩ := kStr_get (HV.out.to (HBW.out.mono hB) (Nat.le_refl _)) (k := k) (by simpa using hlt)
      rw [show ((List.range n).map (mkStr m))[k]'(by simpa using hlt) = mt (m + (k : Int)) by simp [mkStr]] at c0
      have hbr : b < wr.heap.size := by omega
      have HK := Lib.hid (fun (E : World) (hE : Below wr.heap.size wr E) => (keepc hE hbr c0 : E.cell? ⟨b, off + k, none⟩ = some (.string (mt (m + (k : Int))))))
      clear c0
      have r0 := Below.refl wr.heap.size wr
      go_upto_region 4 with fail
      go_cut [18] (fun s wx => s = .bool false ∧ Below wr.heap.size wr wx)
      case first =>
        go_region_held3 (fun w' => w'.cell? ⟨b, off + k, none⟩ = some (.string (mt (m + (k : Int)))))
          (exact HK.out _ (show Below wr.heap.size wr _ by ((repeat (first | with_reducible assumption | with_reducible exact Below.refl _ _ | refine Below.setCell ?_ (by (first | omega | (simp; omega) | (simp; done) | fail "sml")) _ | refine Below.drew ?_ | refine Below.alloc ?_ (by (first | omega | (simp; omega) | (simp; done) | fail "sml")) _)); first | done | fail "chs")))
          (first | (go_at_call 76; with_reducible refine (markText_any _ _ (by omega) (by omega)).mono ?_; rintro e wc ⟨rfl, hbc⟩; have rc := Below.trans (show Below wr.heap.size wr _ by ((repeat (first | with_reducible assumption | with_reducible exact Below.refl _ _ | refine Below.setCell ?_ (by (first | omega | (simp; omega) | (simp; done) | fail "sml")) _ | refine Below.drew ?_ | refine Below.alloc ?_ (by (first | omega | (simp; omega) | (simp; done) | fail "sml")) _)); first | done | fail "chs")) (hbc.mono (by (first | omega | (simp; omega) | (simp; done) | fail "sml"))); have zc := rc.size; clear hbc) | fail "no arm")
        all_goals (go_wp2_with fail; go_meet)
        all_goals exact ⟨rfl, by ((repeat (first | with_reducible assumption | with_reducible exact Below.refl _ _ | refine Below.setCell ?_ (by (first | omega | (simp; omega) | (simp; done) | fail "sml")) _ | refine Below.drew ?_ | refine Below.alloc ?_ (by (first | omega | (simp; omega) | (simp; done) | fail "sml")) _)); first | done | fail "chs")⟩
      case rest =>
        obtain ⟨rfl, hbx⟩ := hcut
        have HBX := Lib.hid (HBW.out.trans (hbx.mono hsz))
        clear hbx
        go_wp2_with fail
        go_roundw
        case rel => exact ⟨k + 1, by omega, by go_num, congrArg (Value.int .i64) (by omega), HBX.out⟩
        case measure => simp [intOf]; omega
    · obtain rfl : k = n := by omega
      go_wp2_with fail
      go_ret
      exact ⟨rfl, HBW.out⟩

/-- A row of an own row of rows: its cell, its own memory, and the whole after it has changed there. -/
theorem kRow_upd {w : World} {p : Option Addr} {n cap : Nat} {xs : List (List Int)} {F : List Nat} (h : kRow.Ow w (.slice p n cap) xs F) {k : Nat} (hk : k < xs.length) :
    ∃ b off F1 q c, p = some ⟨b, off, none⟩ ∧ b ∉ F1 ∧ (∀ y ∈ F1, y ∈ F) ∧ b < w.heap.size ∧ w.cell? ⟨b, off + k, none⟩ = some (.slice q xs[k].length c) ∧ OwnSl 1 intCells w (.slice q xs[k].length c) xs[k] F1 ∧
      ∀ (w' : World) (x' : List Int), Chg F1 w w' → OwnSl 1 intCells w' (.slice q xs[k].length c) x' F1 → kRow.Ow w' (.slice p n cap) (xs.set k x') F := by
  obtain ⟨b, off, cs, F1, e, hb, hn, hs, hl, hf, hc, ho, hback⟩ := h.upd hk
  obtain ⟨s, rfl, hi⟩ := ho
  have hi2 := kInt_ow.1 hi
  obtain ⟨q, c, rfl⟩ := hi2.sl.form
  have h0 := hc 0 _ rfl
  refine ⟨b, off, F1, q, c, e, hn, hs, hl, by rwa [show kRow.sz = 1 from rfl, Nat.mul_one, Nat.add_zero] at h0, hi2, fun w' x' h1 h2 => ?_⟩
  have hbl : ∀ o, w'.cell? ⟨b, o, none⟩ = w.cell? ⟨b, o, none⟩ := fun o => World.cell?_of_block (a := ⟨b, o, none⟩) (h1.block b hl hn)
  have hbf : ∀ o, w'.frozen? ⟨b, o, none⟩ = w.frozen? ⟨b, o, none⟩ := fun o => World.frozen?_of_block (a := ⟨b, o, none⟩) (h1.block b hl hn)
  refine hback w' x' [.slice q xs[k].length c] (h1.mono (fun y hy => List.mem_cons_of_mem _ hy)) (fun o => (hbf o).trans (hf o)) ⟨_, rfl, kInt_ow.2 h2⟩ (fun j u hu => ?_) (fun o _ => hbl o)
  rw [hbl]; exact hc j u hu
def rowO (xs : List (List Int)) (m : Int) (k : Nat) : Int := m + sumR (xs.take k)
def rowM (xs : List (List Int)) (m : Int) (k : Nat) : List Int := (List.range ((xs[k]?.map List.length).getD 0)).map (mkInt (rowO xs m k))
theorem rowM_at {xs : List (List Int)} {m : Int} {k : Nat} (h : k < xs.length) : rowM xs m k = (List.range xs[k].length).map (mkInt (rowO xs m k)) := by
  unfold rowM; rw [List.getElem?_eq_getElem h]; rfl
theorem rowO_succ {xs : List (List Int)} {m : Int} {k : Nat} (h : k < xs.length) : rowO xs m (k + 1) = rowO xs m k + xs[k].length := by
  unfold rowO; rw [sumR_succ _ _ h]; push_cast; omega
theorem rowO_ge {xs : List (List Int)} {m : Int} {k : Nat} : m ≤ rowO xs m k := by unfold rowO; omega
def rowMarks (xs : List (List Int)) (m : Int) : List (List Int) := (List.range xs.length).map (rowM xs m)
theorem rowO_end (xs : List (List Int)) (m : Int) : rowO xs m xs.length = m + sumR xs := by unfold rowO; rw [List.take_length]

set_option maxRecDepth 100000 in
set_option maxHeartbeats 4000000 in
theorem markIntSS_any (xs : List (List Int)) (v : Value) (F : List Nat) (m : Int) (w : World) (hv : kRow.Ow w v xs F) (hm : 1 ≤ m) (hb : m + sumR xs ≤ 90000000) :
    Calls Try.prog 77 #[v, .int .i64 m] w fun e w' => e = .returned (.int .i64 (m + sumR xs)) ∧ kRow.Ow w' v (rowMarks xs m) F ∧ Chg F w w' := by
  obtain ⟨p, cap, rfl⟩ := hv.form
  obtain ⟨_, hm1, hm2⟩ := hv.rd.max
  unfold maxLen at hm2
  have HV := Lib.hid hv
  have HB := Lib.hid hb
  clear hv hb
  go_enter Try.func77, Try.ntmps77
  go_wp2_with fail
  go_loopw [1, 5] (fun kk i wr => ∃ (k : Nat) (t : Int), k ≤ xs.length ∧ i = .int .i64 k ∧ kk = .int .i64 t ∧ RowKit.Hid (t = rowO xs m k) ∧ RowKit.Hid (kRow.Ow wr (.slice p xs.length cap) (half (rowM xs m) xs k) F) ∧ RowKit.Hid (Chg F w wr)) (fun _ i _ => xs.length - (intOf i).toNat)
  case atStart => exact ⟨0, m, Nat.zero_le _, rfl, rfl, Lib.hid (by simp [rowO, sumR]), Lib.hid (by rw [half_zero]; exact HV.out), Lib.hid (Chg.refl _ _)⟩
  case round =>
    obtain ⟨k, t, hk, rfl, rfl, HT, HO, HC⟩ := hrel
    have ht : 1 ≤ t := by have := rowO_ge (xs := xs) (m := m) (k := k); rw [HT.out]; omega
    by_cases hlt : k < xs.length
    · have hlen := half_length (rowM xs m) xs hk
      have hltY : k < (half (rowM xs m) xs k).length := by rw [hlen]; exact hlt
      have hek := half_at (rowM xs m) xs hlt hltY
      have hset := half_succ (rowM xs m) xs hlt
      obtain ⟨b, off, F1, q, c, rfl, hbk, hsub, hbl, c0, hks, hback⟩ := kRow_upd HO.out hltY
      rw [hek] at c0 hks hback
      have hbound : t + xs[k].length ≤ 90000000 := by
        have h1 := HT.out; have h2 := HB.out; have h3 := sumR_succ xs k hlt; have h4 := sumR_le xs (k + 1)
        unfold rowO at h1
        omega
      have HNX := Lib.hid (show t + xs[k].length = rowO xs m (k + 1) by rw [rowO_succ hlt, HT.out])
      have HSET := Lib.hid (show (half (rowM xs m) xs k).set k ((List.range xs[k].length).map (mkInt t)) = half (rowM xs m) xs (k + 1) by rw [← hset, rowM_at hlt, HT.out])
      obtain ⟨x, ex⟩ : ∃ x, x = xs[k] := ⟨_, rfl⟩
      rw [← ex] at c0 hks hback hbound HNX HSET
      have HBACK := Lib.hid hback
      have HKS := Lib.hid hks
      have HSUB := Lib.hid hsub
      clear hback hks hsub ex hek hlen hltY hset HO HT
      go_wp2_with fail
      refine (markIntS_any _ _ _ _ _ HKS.out ht (by omega)).mono ?_
      rintro e w1 ⟨rfl, hk1, hc1⟩
      have HN := Lib.hid (show kRow.Ow w1 (.slice (some ⟨b, off, none⟩) xs.length cap) (half (rowM xs m) xs (k + 1)) F from by rw [← HSET.out]; exact HBACK.out _ _ hc1 hk1)
      have HCN := Lib.hid (HC.out.trans (hc1.mono HSUB.out))
      clear hk1 hc1
      go_wp2_with fail
      go_roundw
      case rel => exact ⟨k + 1, t + x.length, by omega, by go_num, rfl, HNX, HN, HCN⟩
      case measure => simp [intOf]; omega
    · obtain rfl : k = xs.length := by omega
      have HE := Lib.hid (show kRow.Ow wr (.slice p xs.length cap) (rowMarks xs m) F by rw [show rowMarks xs m = half (rowM xs m) xs xs.length from (half_full _ _).symm]; exact HO.out)
      have hte : t = m + sumR xs := HT.out.trans (rowO_end xs m)
      go_wp2_with fail
      go_ret
      exact ⟨by rw [hte]; rfl, HE.out, HC.out⟩

set_option maxRecDepth 100000 in
set_option maxHeartbeats 2000000 in
theorem heldIntSS_any (xs : List (List Int)) (v : Value) (m : Int) (B : Nat) (w : World) (hv : kRow.Rd B w v (rowMarks xs m)) (hB : B ≤ w.heap.size) (hm : 1 ≤ m) (hb : m + sumR xs ≤ 90000000) :
    Calls Try.prog 79 #[v, .int .i64 m] w fun e w' => e = .returned (.int .i64 (m + sumR xs)) ∧ Below w.heap.size w w' := by
  obtain ⟨p, cap, hve⟩ := hv.form
  obtain ⟨_, hm1, hm2⟩ := (hve ▸ hv).max
  have hlen : (rowMarks xs m).length = xs.length := by simp [rowMarks]
  rw [hlen] at hve hm1
  subst hve
  unfold maxLen at hm2
  have HV := Lib.hid hv
  have HB := Lib.hid hb
  clear hv hb
  go_enter Try.func79, Try.ntmps79
  go_wp2_with fail
  go_loopw [1, 5] (fun kk i wr => ∃ (k : Nat) (t : Int), k ≤ xs.length ∧ i = .int .i64 k ∧ kk = .int .i64 t ∧ RowKit.Hid (t = rowO xs m k) ∧ Below w.heap.size w wr) (fun _ i _ => xs.length - (intOf i).toNat)
  case atStart => exact ⟨0, m, Nat.zero_le _, rfl, rfl, Lib.hid (by simp [rowO, sumR]), Below.refl _ _⟩
  case round =>
    obtain ⟨k, t, hk, rfl, rfl, HT, hbw⟩ := hrel
    have hsz := hbw.size
    have HBW := Lib.hid hbw
    clear hbw
    have ht : 1 ≤ t := by have := rowO_ge (xs := xs) (m := m) (k := k); rw [HT.out]; omega
    by_cases hlt : k < xs.length
    · have hltM : k < (rowMarks xs m).length := by rw [hlen]; exact hlt
      obtain ⟨b, off, q, c, rfl, hb', c0, hin⟩ := kRow_get (HV.out.to (HBW.out.mono hB) (Nat.le_refl _)) hltM
      have hgx : (rowMarks xs m)[k] = (List.range xs[k].length).map (mkInt t) := by
        simp only [rowMarks, List.getElem_map, List.getElem_range, rowM_at hlt, HT.out]
      rw [hgx] at c0 hin
      have hbound : t + xs[k].length ≤ 90000000 := by
        have h1 := HT.out; have h2 := HB.out; have h3 := sumR_succ xs k hlt; have h4 := sumR_le xs (k + 1)
        unfold rowO at h1
        omega
      have HNX := Lib.hid (show t + xs[k].length = rowO xs m (k + 1) by rw [rowO_succ hlt, HT.out])
      obtain ⟨n, en⟩ : ∃ n, n = xs[k].length := ⟨_, rfl⟩
      rw [← en] at c0 hin hbound HNX
      have c0' : wr.cell? ⟨b, off + k, none⟩ = some (.slice q n c) := by rw [c0]; simp
      have HIN := Lib.hid (show Sl 1 intCells B wr (.slice q n c) ((List.range n).map (mkInt t)) from by simpa using hin)
      clear hgx en c0 hin hltM HT
      go_wp2_with fail
      refine (heldIntS_any n _ t B _ HIN.out (by omega) ht (by omega)).mono ?_
      rintro e w1 ⟨rfl, hb1⟩
      have HB1 := Lib.hid (HBW.out.trans (hb1.mono hsz))
      have hnn : ¬ (t + (n : Int) < 0) := by omega
      clear hb1
      go_wp2_with fail
      go_roundw
      case rel => exact ⟨k + 1, t + n, by omega, by go_num, rfl, HNX, HB1.out⟩
      case measure => simp [intOf]; omega
    · obtain rfl : k = xs.length := by omega
      have hte : t = m + sumR xs := HT.out.trans (rowO_end xs m)
      go_wp2_with fail
      go_ret
      exact ⟨by rw [hte]; rfl, HBW.out⟩

def Tb.marked (x : Tb) (m : Int) : Tb := ⟨(List.range x.cs.length).map (mkStr m), rowMarks x.rs (m + x.cs.length)⟩

set_option maxHeartbeats 1000000 in
theorem markTable_any (x : Tb) (v : Value) (F : List Nat) (m : Int) (w : World) (hx : x.Has v F w) (hm : 1 ≤ m) (hb : m + x.cs.length + sumR x.rs ≤ 90000000) :
    Calls Try.prog 42 #[v, .int .i64 m] w fun e w' => e = .returned (.int .i64 (m + x.cs.length + sumR x.rs)) ∧ (x.marked m).Has v F w' ∧ Chg F w w' := by
  obtain ⟨a, b, F1, F2, rfl, rfl, h1, h2, h3⟩ := hx
  have L1 := Lib.hid h1.lt
  have L2 := Lib.hid h2.lt
  have H1 := Lib.hid h1
  have H2 := Lib.hid h2
  have H3 := Lib.hid h3
  clear h1 h2 h3
  go_enter Try.func42, Try.ntmps42
  go_wp2_with fail
  refine (markStringS_any x.cs a F1 m _ (kStr_ow.1 (H1.out.below ((Below.refl _ _).alloc (Nat.le_refl _) _))) hm (by omega)).mono ?_
  rintro e w1 ⟨rfl, ho1, hc1⟩
  have HO1 := Lib.hid (kStr_ow.2 ho1)
  have HC0 := Lib.hid (Chg.of_below ((Below.refl w.heap.size w).alloc (Nat.le_refl _) (.cells #[a, b] 33)) (F1 ++ F2))
  have HC1 := Lib.hid (HC0.out.trans (hc1.mono (fun x hx => List.mem_append_left _ hx)))
  have p1 : w1.cell? ⟨w.heap.size, 1, none⟩ = some b :=
    (World.cell?_of_block (w := w.alloc (.cells #[a, b] 33)) (a := ⟨w.heap.size, 1, none⟩) (hc1.block w.heap.size (by simp) (fun hx => by have := L1.out _ hx; omega))).trans (by simp [go_sem])
  have HE := Lib.hid ((H2.out.below ((Below.refl _ _).alloc (Nat.le_refl _) (.cells #[a, b] 33))).chg hc1 (fun x hx hx1 => H3.out x hx1 hx))
  clear ho1 hc1
  go_wp2_with fail
  refine (markIntSS_any x.rs b F2 _ _ HE.out (by omega) (by omega)).mono ?_
  rintro e w2 ⟨rfl, ho2, hc2⟩
  have HO2 := Lib.hid ho2
  have HC2 := Lib.hid (HC1.out.trans (hc2.mono (fun x hx => List.mem_append_right _ hx)))
  have HN := Lib.hid (HO1.out.chg hc2 (fun x hx hx2 => H3.out x hx hx2))
  clear ho2 hc2
  go_wp2_with fail
  go_ret
  exact ⟨rfl, ⟨a, b, F1, F2, rfl, rfl, HN.out, HO2.out, H3.out⟩, HC2.out⟩

set_option maxHeartbeats 1000000 in
theorem heldTable_any (x : Tb) (v : Value) (m : Int) (B : Nat) (w : World) (hx : (x.marked m).At B w v) (hB : B ≤ w.heap.size) (hm : 1 ≤ m) (hb : m + x.cs.length + sumR x.rs ≤ 90000000) :
    Calls Try.prog 43 #[v, .int .i64 m] w fun e w' => e = .returned (.int .i64 (m + x.cs.length + sumR x.rs)) ∧ Below w.heap.size w w' := by
  obtain ⟨a, b, rfl, ha, hb2⟩ := hx
  have H1 := Lib.hid ha
  have H2 := Lib.hid hb2
  clear ha hb2
  go_enter Try.func43, Try.ntmps43
  go_wp2_with fail
  refine (heldStringS_any x.cs.length a m B _ (H1.out.to ((Below.refl B w).alloc hB _) (Nat.le_refl _)) (by simp; omega) hm (by omega)).mono ?_
  rintro e w1 ⟨rfl, hb1⟩
  have hs1 : w.heap.size < w1.heap.size := by have := hb1.size; simp at this; omega
  have c1 := new_cell hb1 (j := 1) rfl
  have HB1 := Lib.hid (below_past hb1)
  clear hb1
  go_wp2_with fail
  refine (heldIntSS_any x.rs b _ B _ (H2.out.to (HB1.out.mono hB) (Nat.le_refl _)) (by omega) (by omega) (by omega)).mono ?_
  rintro e w2 ⟨rfl, hb2⟩
  have HB2 := Lib.hid (HB1.out.trans (hb2.mono (by omega)))
  clear hb2
  go_wp2_with fail
  go_ret
  exact ⟨rfl, HB2.out⟩
end Go.Proofs.Ytfdkmngkpihpbaa
