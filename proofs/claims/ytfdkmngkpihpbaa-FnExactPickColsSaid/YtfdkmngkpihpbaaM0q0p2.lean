/- Lemmas on the data and the memory of this program's values: several texts in one. -/
import Derived.Test.YtfdkmngkpihpbaaM0q0p1
import Derived.Lib.AppendZeros
import Derived.Lib.AppendZerosOnto
import Derived.StillTailTactics
import Derived.Deep.QuietTactic
import Derived.BigQuiet
import Derived.Deep.Slices
import Derived.Deep.Fields
import Derived.ChangeSame
import Derived.Lib.SmallJoins
import Derived.Test.YtfdkmngkpihpbaaProg
import Derived.KernelRfl
import Derived.Deep.RegionHeld3
import Derived.Deep.DeepCutAuto
import Derived.Deep.AppendLies
import Derived.OwnWalk
import Derived.Laws.AppendOwn
import Derived.IntWalk
import Derived.ProofKit
import Derived.WideKeyElems3
import Derived.DeepKeys3
namespace Go.Proofs.Ytfdkmngkpihpbaa
open Go.RowKit

theorem kStr_orow {w : World} : ∀ {xs : List ByteArray} {c : Nat → Option Value} {F : List Nat}, kStr.ORow w xs c F ↔ F = [] ∧ ∀ i (h : i < xs.length), c i = some (.string xs[i])
  | [], c, F => by
    constructor
    · intro h; exact ⟨h, fun i hi => by simp at hi⟩
    · intro h; exact h.1
  | x :: xs, c, F => by
    constructor
    · rintro ⟨cs, F1, F2, rfl, _, h0, ⟨rfl, rfl⟩, h2⟩
      obtain ⟨rfl, h3⟩ := kStr_orow.1 h2
      refine ⟨rfl, fun i hi => ?_⟩
      cases i with
      | zero => exact h0 0 _ rfl
      | succ i => exact h3 i (by simpa using hi)
    · rintro ⟨rfl, h⟩
      refine ⟨[.string x], [], [], rfl, by simp, fun j u hu => ?_, ⟨rfl, rfl⟩, kStr_orow.2 ⟨rfl, fun i hi => ?_⟩⟩
      · cases j with
        | zero => simp at hu; subst hu; exact h 0 (by simp)
        | succ j => simp at hu
      · exact h (i + 1) (by simpa using hi)
theorem kStr_ow {w : World} {v : Value} {xs : List ByteArray} {F : List Nat} : kStr.Ow w v xs F ↔ OwnSl 1 strCells w v xs F := by
  constructor
  · rintro ⟨p, cap, h1, h2, h3, h4⟩
    refine ⟨p, _, cap, h1, rfl, h2, h3, ?_⟩
    rcases h4 with ⟨rfl, rfl⟩ | ⟨b, off, F', e, rfl, hn, hlt, hf, ho⟩
    · exact .inl ⟨rfl, rfl⟩
    · obtain ⟨rfl, h5⟩ := kStr_orow.1 ho
      refine .inr ⟨b, off, e, rfl, hlt, hf, fun i hi j x hx => ?_⟩
      cases j with
      | zero => simp [strCells] at hx; subst hx; simpa using h5 i hi
      | succ j => simp [strCells] at hx
  · rintro ⟨p, len, cap, h1, rfl, h2, h3, h4⟩
    refine ⟨p, cap, h1, h2, h3, ?_⟩
    rcases h4 with ⟨rfl, rfl⟩ | ⟨b, off, e, rfl, hlt, hf, h5⟩
    · exact .inl ⟨rfl, rfl⟩
    · refine .inr ⟨b, off, [], e, rfl, by simp, hlt, hf, kStr_orow.2 ⟨rfl, fun i hi => ?_⟩⟩
      have := h5 i hi 0 _ rfl
      simpa using this
def mkStr (m : Int) (k : Nat) : ByteArray := mt (m + k)
set_option maxRecDepth 100000 in
set_option maxHeartbeats 2000000 in
theorem markStringS_any (xs : List ByteArray) (v : Value) (F : List Nat) (m : Int) (w : World) (hv : OwnSl 1 strCells w v xs F) (hm : 1 ≤ m) (hb : m + xs.length ≤ 100000000) :
    Calls Try.prog 41 #[v, .int .i64 m] w fun e w' => e = .returned (.int .i64 (m + xs.length)) ∧ OwnSl 1 strCells w' v ((List.range xs.length).map (mkStr m)) F ∧ Chg F w w' := by
  obtain ⟨p, cap, rfl⟩ := hv.sl.form
  go_enter Try.func41, Try.ntmps41
  go_wp2_with fail
  go_loopw [1, 5] (fun kk i wr => ∃ k : Nat, k ≤ xs.length ∧ i = .int .i64 k ∧ kk = .int .i64 (m + (k : Int)) ∧ OwnSl 1 strCells wr (.slice p xs.length cap) (half (mkStr m) xs k) F ∧ Chg F w wr) (fun _ i _ => xs.length - (intOf i).toNat)
  case atStart => exact ⟨0, Nat.zero_le _, rfl, by simp, by rw [half_zero]; exact hv, Chg.refl _ _⟩
  case round =>
    obtain ⟨k, hk, rfl, rfl, hown, hch⟩ := hrel
    have HC := Lib.hid hch
    clear hch
    by_cases hlt : k < xs.length
    · skip
      obtain ⟨b, off, rfl, rfl, hbb, hfz, hcells⟩ := hown.elem (k := k) (by rw [half_length _ _ hk]; exact hlt)
      have own0 : OwnSl 1 strCells wr (.slice (some ⟨b, off, none⟩) xs.length cap) ((half (mkStr m) xs k).set k xs[k]) [b] := by
        have e := half_at (mkStr m) xs hlt (by rw [half_length _ _ hk]; exact hlt)
        rw [← e, List.set_getElem_self]; exact hown
      have hlen := half_length (mkStr m) xs hk
      obtain ⟨x, ex⟩ : ∃ x, x = xs[k] := ⟨_, rfl⟩
      rw [← ex] at own0
      clear ex hcells hown
      have HL := Lib.hid (show k < (half (mkStr m) xs k).length by rw [hlen]; exact hlt)
      clear hlen
      have OW := Lib.hid own0
      clear own0
      go_wp2_with fail
      refine (markText_any _ _ (by omega) (by omega)).mono ?_
      rintro e w1 ⟨rfl, hb1⟩
      have hsz1 := hb1.size
      have OV : RowKit.Hid (OwnSl 1 strCells w1 (.slice (some ⟨b, off, none⟩) xs.length cap) ((half (mkStr m) xs k).set k x) [b]) := Lib.hid ((OW.out).below (hb1.mono (by simp)))
      have HCN := Lib.hid ((HC.out).then_below (hb1.mono (by simp)))
      clear hb1 OW HC
      have OW := OV
      have HC := HCN
      clear OV HCN
      have cz0 := OW.out.setcell HL.out (j := 0) (x := .string x) rfl
      simp only [Nat.mul_one, Nat.add_zero] at cz0
      obtain ⟨c0, z0⟩ := cz0
      go_wp2_with fail
      go_roundw
      case rel => exact ⟨k + 1, by omega, by go_num, congrArg (Value.int .i64) (by omega), (by rw [← half_succ _ _ hlt]; exact ((OW.out).restore1 HL.out (fun _ => rfl) (mt (m + (k : Int))) (.string (mt (m + (k : Int)))) rfl)), ((HC.out).setCell (p := ⟨b, off + k, none⟩) (by simp) (.string (mt (m + (k : Int)))))⟩
      case measure => simp [intOf]; omega
    · obtain rfl : k = xs.length := by omega
      rw [half_full] at hown
      have HO := Lib.hid hown
      clear hown
      go_wp2_with fail
      go_ret
      exact ⟨rfl, HO.out, HC.out⟩

set_option maxRecDepth 100000 in
set_option maxHeartbeats 2000000 in
theorem heldStringS_any (n : Nat) (v : Value) (m : Int) (B : Nat) (w : World) (hv : kStr.Rd B w v ((List.range n).map (mkStr m))) (hB : B ≤ w.heap.size) (hm : 1 ≤ m) (hb : m + (n : Int) ≤ 100000000) :
    Calls Try.prog 78 #[v, .int .i64 m] w fun e w' => e = .returned (.int .i64 (m + (n : Int))) ∧ Below w.heap.size w w' := by
  obtain ⟨p, cap, hve⟩ := hv.form
  rw [show ((List.range n).map (mkStr m)).length = n by simp] at hve
  subst hve
  have HV := Lib.hid hv
  clear hv
  go_enter Try.func78, Try.ntmps78
  go_wp2_with fail
  go_loopw [1, 5] (fun kk i wr => ∃ k : Nat, k ≤ n ∧ i = .int .i64 k ∧ kk = .int .i64 (m + (k : Int)) ∧ Below w.heap.size w wr) (fun _ i _ => n - (intOf i).toNat)
  case atStart => exact ⟨0, Nat.zero_le _, rfl, by simp, Below.refl _ _⟩
  case round =>
    obtain ⟨k, hk, rfl, rfl, hbw⟩ := hrel
    have hsz := hbw.size
    have HBW := Lib.hid hbw
    clear hbw
    by_cases hlt : k < n
    · obtain ⟨b, off, rfl, hb', c0⟩ := kStr_get (HV.out.to (HBW.out.mono hB) (Nat.le_refl _)) (k := k) (by simpa using hlt)
      rw [show ((List.range n).map (mkStr m))[k]'(by simpa using hlt) = mt (m + (k : Int)) by simp [mkStr]] at c0
      have hbr : b < wr.heap.size := by omega
      have HK := Lib.hid (fun (E : World) (hE : Below wr.heap.size wr E) => (keepc hE hbr c0 : E.cell? ⟨b, off + k, none⟩ = some (.string (mt (m + (k : Int))))))
      clear c0
      have r0 := Below.refl wr.heap.size wr
      go_upto_region 4 with fail
      go_cut [18] (fun s wx => s = .bool false ∧ Below wr.heap.size wr wx)
      case first =>
        go_region_held3 (fun w' => w'.cell? ⟨b, off + k, none⟩ = some (.string (mt (m + (k : Int)))))
          (exact HK.out _ (show Below wr.heap.size wr _ by ((repeat (first | with_reducible assumption | with_reducible exact Below.refl _ _ | refine Below.setCell ?_ (by (first | omega | (simp; omega) | (simp; done) | fail "sml")) _ | refine Below.drew ?_ | refine Below.alloc ?_ (by (first | omega | (simp; omega) | (simp; done) | fail "sml")) _)); first | done | fail "chs")))
          (first | (go_at_call 76; with_reducible refine (markText_any _ _ (by omega) (by omega)).mono ?_; rintro e wc ⟨rfl, hbc⟩; have rc := Below.trans (show Below wr.heap.size wr _ by ((repeat (first | with_reducible assumption | with_reducible exact Below.refl _ _ | refine Below.setCell ?_ (by (first | omega | (simp; omega) | (simp; done) | fail "sml")) _ | refine Below.drew ?_ | refine Below.alloc ?_ (by (first | omega | (simp; omega) | (simp; done) | fail "sml")) _)); first | done | fail "chs")) (hbc.mono (by (first | omega | (simp; omega) | (simp; done) | fail "sml"))); have zc := rc.size; clear hbc) | fail "no arm")
        all_goals (go_wp2_with fail; go_meet)
        all_goals exact ⟨rfl, by ((repeat (first | with_reducible assumption | with_reducible exact Below.refl _ _ | refine Below.setCell ?_ (by (first | omega | (simp; omega) | (simp; done) | fail "sml")) _ | refine Below.drew ?_ | refine Below.alloc ?_ (by (first | omega | (simp; omega) | (simp; done) | fail "sml")) _)); first | done | fail "chs")⟩
      case rest =>
        obtain ⟨rfl, hbx⟩ := hcut
        have HBX := Lib.hid (HBW.out.trans (hbx.mono hsz))
        clear hbx
        go_wp2_with fail
        go_roundw
        case rel => exact ⟨k + 1, by omega, by go_num, congrArg (Value.int .i64) (by omega), HBX.out⟩
        case measure => simp [intOf]; omega
    · obtain rfl : k = n := by omega
      go_wp2_with fail
      go_ret
      exact ⟨rfl, HBW.out⟩

/-- A row of an own row of rows: its cell, its own memory, and the whole after it has changed there. -/
theorem kRow_upd {w : World} {p : Option Addr} {n cap : Nat} {xs : List (List Int)} {F : List Nat} (h : kRow.Ow w (.slice p n cap) xs F) {k : Nat} (hk : k < xs.length) :
    ∃ b off F1 q c, p = some ⟨b, off, none⟩ ∧ b ∉ F1 ∧ (∀ y ∈ F1, y ∈ F) ∧ b < w.heap.size ∧ w.cell? ⟨b, off + k, none⟩ = some (.slice q xs[k].length c) ∧ OwnSl 1 intCells w (.slice q xs[k].length c) xs[k] F1 ∧
      ∀ (w' : World) (x' : List Int), Chg F1 w w' → OwnSl 1 intCells w' (.slice q xs[k].length c) x' F1 → kRow.Ow w' (.slice p n cap) (xs.set k x') F := by
  obtain ⟨b, off, cs, F1, e, hb, hn, hs, hl, hf, hc, ho, hback⟩ := h.upd hk
  obtain ⟨s, rfl, hi⟩ := ho
  have hi2 := kInt_ow.1 hi
  obtain ⟨q, c, rfl⟩ := hi2.sl.form
  have h0 := hc 0 _ rfl
  refine ⟨b, off, F1, q, c, e, hn, hs, hl, by rwa [show kRow.sz = 1 from rfl, Nat.mul_one, Nat.add_zero] at h0, hi2, fun w' x' h1 h2 => ?_⟩
  have hbl : ∀ o, w'.cell? ⟨b, o, none⟩ = w.cell? ⟨b, o, none⟩ := fun o => World.cell?_of_block (a := ⟨b, o, none⟩) (h1.block b hl hn)
  have hbf : ∀ o, w'.frozen? ⟨b, o, none⟩ = w.frozen? ⟨b, o, none⟩ := fun o => World.frozen?_of_block (a := ⟨b, o, none⟩) (h1.block b hl hn)
  refine hback w' x' [.slice q xs[k].length c] (h1.mono (fun y hy => List.mem_cons_of_mem _ hy)) (fun o => (hbf o).trans (hf o)) ⟨_, rfl, kInt_ow.2 h2⟩ (fun j u hu => ?_) (fun o _ => hbl o)
  rw [hbl]; exact hc j u hu
def rowO (xs : List (List Int)) (m : Int) (k : Nat) : Int := m + sumR (xs.take k)
def rowM (xs : List (List Int)) (m : Int) (k : Nat) : List Int := (List.range ((xs[k]?.map List.length).getD 0)).map (mkInt (rowO xs m k))
theorem rowM_at {xs : List (List Int)} {m : Int} {k : Nat} (h : k < xs.length) : rowM xs m k = (List.range xs[k].length).map (mkInt (rowO xs m k)) := by
  unfold rowM; rw [List.getElem?_eq_getElem h]; rfl
theorem rowO_succ {xs : List (List Int)} {m : Int} {k : Nat} (h : k < xs.length) : rowO xs m (k + 1) = rowO xs m k + xs[k].length := by
  unfold rowO; rw [sumR_succ _ _ h]; push_cast; omega
theorem rowO_ge {xs : List (List Int)} {m : Int} {k : Nat} : m ≤ rowO xs m k := by unfold rowO; omega
def rowMarks (xs : List (List Int)) (m : Int) : List (List Int) := (List.range xs.length).map (rowM xs m)
theorem rowO_end (xs : List (List Int)) (m : Int) : rowO xs m xs.length = m + sumR xs := by unfold rowO; rw [List.take_length]

set_option maxRecDepth 100000 in
set_option maxHeartbeats 4000000 in
theorem markIntSS_any (xs : List (List Int)) (v : Value) (F : List Nat) (m : Int) (w : World) (hv : kRow.Ow w v xs F) (hm : 1 ≤ m) (hb : m + sumR xs ≤ 90000000) :
    Calls Try.prog 77 #[v, .int .i64 m] w fun e w' => e = .returned (.int .i64 (m + sumR xs)) ∧ kRow.Ow w' v (rowMarks xs m) F ∧ Chg F w w' := by
  obtain ⟨p, cap, rfl⟩ := hv.form
  obtain ⟨_, hm1, hm2⟩ := hv.rd.max
  unfold maxLen at hm2
  have HV := Lib.hid hv
  have HB := Lib.hid hb
  clear hv hb
  go_enter Try.func77, Try.ntmps77
  go_wp2_with fail
  go_loopw [1, 5] (fun kk i wr => ∃ (k : Nat) (t : Int), k ≤ xs.length ∧ i = .int .i64 k ∧ kk = .int .i64 t ∧ RowKit.Hid (t = rowO xs m k) ∧ RowKit.Hid (kRow.Ow wr (.slice p xs.length cap) (half (rowM xs m) xs k) F) ∧ RowKit.Hid (Chg F w wr)) (fun _ i _ => xs.length - (intOf i).toNat)
  case atStart => exact ⟨0, m, Nat.zero_le _, rfl, rfl, Lib.hid (by simp [rowO, sumR]), Lib.hid (by rw [half_zero]; exact HV.out), Lib.hid (Chg.refl _ _)⟩
  case round =>
    obtain ⟨k, t, hk, rfl, rfl, HT, HO, HC⟩ := hrel
    have ht : 1 ≤ t := by have := rowO_ge (xs := xs) (m := m) (k := k); rw [HT.out]; omega
    by_cases hlt : k < xs.length
    · have hlen := half_length (rowM xs m) xs hk
      have hltY : k < (half (rowM xs m) xs k).length := by rw [hlen]; exact hlt
      have hek := half_at (rowM xs m) xs hlt hltY
      have hset := half_succ (rowM xs m) xs hlt
      obtain ⟨b, off, F1, q, c, rfl, hbk, hsub, hbl, c0, hks, hback⟩ := kRow_upd HO.out hltY
      rw [hek] at c0 hks hback
      have hbound : t + xs[k].length ≤ 90000000 := by
        have h1 := HT.out; have h2 := HB.out; have h3 := sumR_succ xs k hlt; have h4 := sumR_le xs (k + 1)
        unfold rowO at h1
        omega
      have HNX := Lib.hid (show t + xs[k].length = rowO xs m (k + 1) by rw [rowO_succ hlt, HT.out])
      have HSET := Lib.hid (show (half (rowM xs m) xs k).set k ((List.range xs[k].length).map (mkInt t)) = half (rowM xs m) xs (k + 1) by rw [← hset, rowM_at hlt, HT.out])
      obtain ⟨x, ex⟩ : ∃ x, x = xs[k] := ⟨_, rfl⟩
      rw [← ex] at c0 hks hback hbound HNX HSET
      have HBACK := Lib.hid hback
      have HKS := Lib.hid hks
      have HSUB := Lib.hid hsub
      clear hback hks hsub ex hek hlen hltY hset HO HT
      go_wp2_with fail
      refine (markIntS_any _ _ _ _ _ HKS.out ht (by omega)).mono ?_
      rintro e w1 ⟨rfl, hk1, hc1⟩
      have HN := Lib.hid (show kRow.Ow w1 (.slice (some ⟨b, off, none⟩) xs.length cap) (half (rowM xs m) xs (k + 1)) F from by rw [← HSET.out]; exact HBACK.out _ _ hc1 hk1)
      have HCN := Lib.hid (HC.out.trans (hc1.mono HSUB.out))
      clear hk1 hc1
      go_wp2_with fail
      go_roundw
      case rel => exact ⟨k + 1, t + x.length, by omega, by go_num, rfl, HNX, HN, HCN⟩
      case measure => simp [intOf]; omega
    · obtain rfl : k = xs.length := by omega
      have HE := Lib.hid (show kRow.Ow wr (.slice p xs.length cap) (rowMarks xs m) F by rw [show rowMarks xs m = half (rowM xs m) xs xs.length from (half_full _ _).symm]; exact HO.out)
      have hte : t = m + sumR xs := HT.out.trans (rowO_end xs m)
      go_wp2_with fail
      go_ret
      exact ⟨by rw [hte]; rfl, HE.out, HC.out⟩

set_option maxRecDepth 100000 in
set_option maxHeartbeats 2000000 in
theorem heldIntSS_any (xs : List (List Int)) (v : Value) (m : Int) (B : Nat) (w : World) (hv : kRow.Rd B w v (rowMarks xs m)) (hB : B ≤ w.heap.size) (hm : 1 ≤ m) (hb : m + sumR xs ≤ 90000000) :
    Calls Try.prog 79 #[v, .int .i64 m] w fun e w' => e = .returned (.int .i64 (m + sumR xs)) ∧ Below w.heap.size w w' := by
  obtain ⟨p, cap, hve⟩ := hv.form
  obtain ⟨_, hm1, hm2⟩ := (hve ▸ hv).max
  have hlen : (rowMarks xs m).length = xs.length := by simp [rowMarks]
  rw [hlen] at hve hm1
  subst hve
  unfold maxLen at hm2
  have HV := Lib.hid hv
  have HB := Lib.hid hb
  clear hv hb
  go_enter Try.func79, Try.ntmps79
  go_wp2_with fail
  go_loopw [1, 5] (fun kk i wr => ∃ (k : Nat) (t : Int), k ≤ xs.length ∧ i = .int .i64 k ∧ kk = .int .i64 t ∧ RowKit.Hid (t = rowO xs m k) ∧ Below w.heap.size w wr) (fun _ i _ => xs.length - (intOf i).toNat)
  case atStart => exact ⟨0, m, Nat.zero_le _, rfl, rfl, Lib.hid (by simp [rowO, sumR]), Below.refl _ _⟩
  case round =>
    obtain ⟨k, t, hk, rfl, rfl, HT, hbw⟩ := hrel
    have hsz := hbw.size
    have HBW := Lib.hid hbw
    clear hbw
    have ht : 1 ≤ t := by have := rowO_ge (xs := xs) (m := m) (k := k); rw [HT.out]; omega
    by_cases hlt : k < xs.length
    · have hltM : k < (rowMarks xs m).length := by rw [hlen]; exact hlt
      obtain ⟨b, off, q, c, rfl, hb', c0, hin⟩ := kRow_get (HV.out.to (HBW.out.mono hB) (Nat.le_refl _)) hltM
      have hgx : (rowMarks xs m)[k] = (List.range xs[k].length).map (mkInt t) := by
        simp only [rowMarks, List.getElem_map, List.getElem_range, rowM_at hlt, HT.out]
      rw [hgx] at c0 hin
      have hbound : t + xs[k].length ≤ 90000000 := by
        have h1 := HT.out; have h2 := HB.out; have h3 := sumR_succ xs k hlt; have h4 := sumR_le xs (k + 1)
        unfold rowO at h1
        omega
      have HNX := Lib.hid (show t + xs[k].length = rowO xs m (k + 1) by rw [rowO_succ hlt, HT.out])
      obtain ⟨n, en⟩ : ∃ n, n = xs[k].length := ⟨_, rfl⟩
      rw [← en] at c0 hin hbound HNX
      have c0' : wr.cell? ⟨b, off + k, none⟩ = some (.slice q n c) := by rw [c0]; simp
      have HIN := Lib.hid (show Sl 1 intCells B wr (.slice q n c) ((List.range n).map (mkInt t)) from by simpa using hin)
      clear hgx en c0 hin hltM HT
      go_wp2_with fail
      refine (heldIntS_any n _ t B _ HIN.out (by omega) ht (by omega)).mono ?_
      rintro e w1 ⟨rfl, hb1⟩
      have HB1 := Lib.hid (HBW.out.trans (hb1.mono hsz))
      have hnn : ¬ (t + (n : Int) < 0) := by omega
      clear hb1
      go_wp2_with fail
      go_roundw
      case rel => exact ⟨k + 1, t + n, by omega, by go_num, rfl, HNX, HB1.out⟩
      case measure => simp [intOf]; omega
    · obtain rfl : k = xs.length := by omega
      have hte : t = m + sumR xs := HT.out.trans (rowO_end xs m)
      go_wp2_with fail
      go_ret
      exact ⟨by rw [hte]; rfl, HBW.out⟩

def Tb.marked (x : Tb) (m : Int) : Tb := ⟨(List.range x.cs.length).map (mkStr m), rowMarks x.rs (m + x.cs.length)⟩

set_option maxHeartbeats 1000000 in
theorem markTable_any (x : Tb) (v : Value) (F : List Nat) (m : Int) (w : World) (hx : x.Has v F w) (hm : 1 ≤ m) (hb : m + x.cs.length + sumR x.rs ≤ 90000000) :
    Calls Try.prog 42 #[v, .int .i64 m] w fun e w' => e = .returned (.int .i64 (m + x.cs.length + sumR x.rs)) ∧ (x.marked m).Has v F w' ∧ Chg F w w' := by
  obtain ⟨a, b, F1, F2, rfl, rfl, h1, h2, h3⟩ := hx
  have L1 := Lib.hid h1.lt
  have L2 := Lib.hid h2.lt
  have H1 := Lib.hid h1
  have H2 := Lib.hid h2
  have H3 := Lib.hid h3
  clear h1 h2 h3
  go_enter Try.func42, Try.ntmps42
  go_wp2_with fail
  refine (markStringS_any x.cs a F1 m _ (kStr_ow.1 (H1.out.below ((Below.refl _ _).alloc (Nat.le_refl _) _))) hm (by omega)).mono ?_
  rintro e w1 ⟨rfl, ho1, hc1⟩
  have HO1 := Lib.hid (kStr_ow.2 ho1)
  have HC0 := Lib.hid (Chg.of_below ((Below.refl w.heap.size w).alloc (Nat.le_refl _) (.cells #[a, b] 33)) (F1 ++ F2))
  have HC1 := Lib.hid (HC0.out.trans (hc1.mono (fun x hx => List.mem_append_left _ hx)))
  have p1 : w1.cell? ⟨w.heap.size, 1, none⟩ = some b :=
    (World.cell?_of_block (w := w.alloc (.cells #[a, b] 33)) (a := ⟨w.heap.size, 1, none⟩) (hc1.block w.heap.size (by simp) (fun hx => by have := L1.out _ hx; omega))).trans (by simp [go_sem])
  have HE := Lib.hid ((H2.out.below ((Below.refl _ _).alloc (Nat.le_refl _) (.cells #[a, b] 33))).chg hc1 (fun x hx hx1 => H3.out x hx1 hx))
  clear ho1 hc1
  go_wp2_with fail
  refine (markIntSS_any x.rs b F2 _ _ HE.out (by omega) (by omega)).mono ?_
  rintro e w2 ⟨rfl, ho2, hc2⟩
  have HO2 := Lib.hid ho2
  have HC2 := Lib.hid (HC1.out.trans (hc2.mono (fun x hx => List.mem_append_right _ hx)))
  have HN := Lib.hid (HO1.out.chg hc2 (fun x hx hx2 => H3.out x hx hx2))
  clear ho2 hc2
  go_wp2_with fail
  go_ret
  exact ⟨rfl, ⟨a, b, F1, F2, rfl, rfl, HN.out, HO2.out, H3.out⟩, HC2.out⟩

set_option maxHeartbeats 1000000 in
theorem heldTable_any (x : Tb) (v : Value) (m : Int) (B : Nat) (w : World) (hx : (x.marked m).At B w v) (hB : B ≤ w.heap.size) (hm : 1 ≤ m) (hb : m + x.cs.length + sumR x.rs ≤ 90000000) :
    Calls Try.prog 43 #[v, .int .i64 m] w fun e w' => e = .returned (.int .i64 (m + x.cs.length + sumR x.rs)) ∧ Below w.heap.size w w' := by
  obtain ⟨a, b, rfl, ha, hb2⟩ := hx
  have H1 := Lib.hid ha
  have H2 := Lib.hid hb2
  clear ha hb2
  go_enter Try.func43, Try.ntmps43
  go_wp2_with fail
  refine (heldStringS_any x.cs.length a m B _ (H1.out.to ((Below.refl B w).alloc hB _) (Nat.le_refl _)) (by simp; omega) hm (by omega)).mono ?_
  rintro e w1 ⟨rfl, hb1⟩
  have hs1 : w.heap.size < w1.heap.size := by have := hb1.size; simp at this; omega
  have c1 := new_cell hb1 (j := 1) rfl
  have HB1 := Lib.hid (below_past hb1)
  clear hb1
  go_wp2_with fail
  refine (heldIntSS_any x.rs b _ B _ (H2.out.to (HB1.out.mono hB) (Nat.le_refl _)) (by omega) (by omega) (by omega)).mono ?_
  rintro e w2 ⟨rfl, hb2⟩
  have HB2 := Lib.hid (HB1.out.trans (hb2.mono (by omega)))
  clear hb2
  go_wp2_with fail
  go_ret
  exact ⟨rfl, HB2.out⟩
end Go.Proofs.Ytfdkmngkpihpbaa
namespace Go.Proofs.Ytfdkmngkpihpbaa
open Go.RowKit

def lbl (s : ByteArray) : Bool := decide (s.size = 0) || lv s
def nm (n : Int) : Bool := decide (0 ≤ n) && decide (n ≤ 99)
theorem pv_eq (s : ByteArray) (n : Int) : pv s n = (lbl s && nm n) := rfl

end Go.Proofs.Ytfdkmngkpihpbaa
namespace Go.Proofs.Ytfdkmngkpihpbaa
open Go.RowKit

theorem grown_of_below {w w' : World} (h : Below w.heap.size w w') : w.grownBy w' none := ⟨h.os, h.tape, h.output, h.size, fun k hk _ => h.block k hk⟩
theorem ownsRow_below {w w' : World} {base : Nat} {e : TypeId} {size : Nat} {v : Value} {n : Nat} {xs : List Value} (h : w.ownsRow base e size v n xs) (hb : Below w.heap.size w w') : w'.ownsRow base e size v n xs :=
  h.kept (grown_of_below hb) (Classical.em _)
theorem own_of_row {w : World} {base : Nat} {e : TypeId} {v : Value} {xs : List Int} (h : w.ownsRow base e 1 v xs.length (xs.map (Value.int .i64))) : ∃ F, OwnSl 1 intCells w v xs F ∧ ∀ x ∈ F, base ≤ x := by
  obtain ⟨hl, h⟩ := h
  rcases h with ⟨rfl, h0⟩ | ⟨g, cap, cur, rfl, hb, hg, hn, hc, hs, ht⟩
  · exact ⟨[], ⟨none, 0, 0, rfl, h0.symm, Nat.le_refl _, Nat.zero_le _, .inl ⟨List.eq_nil_of_length_eq_zero h0, rfl⟩⟩, by simp⟩
  · refine ⟨[g], ⟨_, _, _, rfl, rfl, hn, hc, .inr ⟨g, 0, rfl, rfl, (Array.getElem?_eq_some_iff.1 hg).1, fun o => by simp [World.frozen?, hg], fun i hi j x hx => ?_⟩⟩, by simpa using hb⟩
    have hj : j = 0 := by
      have := (List.getElem?_eq_some_iff.1 hx).1
      simp [intCells] at this; omega
    subst hj
    have hx' : x = .int .i64 xs[i] := by simpa [intCells] using hx.symm
    have e1 : (cur.toList.take (xs.length * 1))[i]? = some (.int .i64 xs[i]) := by rw [ht]; simp [hi]
    rw [List.getElem?_take_of_lt (by omega)] at e1
    simp only [World.cell?, hg, Nat.zero_add, Nat.mul_one, Nat.add_zero]
    rw [hx', ← e1]; simp

/-- The places i < k whose edge answers yes. -/
def pick (p : Ed → Bool) (es : List Ed) : Nat → List Int
  | 0 => []
  | k + 1 => if (es[k]?.map p).getD false then pick p es k ++ [(k : Int)] else pick p es k
theorem pick_yes {p : Ed → Bool} {es : List Ed} {k : Nat} (h : k < es.length) (hp : p es[k] = true) : pick p es (k + 1) = pick p es k ++ [(k : Int)] := by
  simp [pick, List.getElem?_eq_getElem h, hp]
theorem pick_no {p : Ed → Bool} {es : List Ed} {k : Nat} (h : k < es.length) (hp : p es[k] = false) : pick p es (k + 1) = pick p es k := by
  simp [pick, List.getElem?_eq_getElem h, hp]
theorem pick_le (p : Ed → Bool) (es : List Ed) : ∀ k, (pick p es k).length ≤ k
  | 0 => Nat.le_refl _
  | k + 1 => by have := pick_le p es k; unfold pick; split <;> simp <;> omega
theorem gv_len {g : Gr} (h : gv g = true) : g.es.length ≤ 14 := by
  unfold gv at h
  simp only [Bool.and_eq_true, decide_eq_true_eq] at h
  omega
theorem infoInt : (Try.prog.info? 3).map (fun i => (i.zero, i.size, i.bytes)) = some (some (.int .i64 0), 1, 8) := by kernel_rfl

def byOut (node : Int) (x : Ed) : Bool := x.f == node
def edgesOut (g : Gr) (node : Int) : List Int := if gv g then pick (byOut node) g.es g.es.length else []

def byIn (node : Int) (x : Ed) : Bool := x.t == node
def edgesIn (g : Gr) (node : Int) : List Int := if gv g then pick (byIn node) g.es g.es.length else []

end Go.Proofs.Ytfdkmngkpihpbaa
namespace Go.Proofs.Ytfdkmngkpihpbaa
open Go.RowKit

/-- The cells of flat elements, one behind the other. -/
def flat {α : Type} (enc : α → List Value) (xs : List α) : List Value := xs.flatMap enc
theorem flat_length {α : Type} {enc : α → List Value} {sz : Nat} (h : ∀ x, (enc x).length = sz) : ∀ xs : List α, (flat enc xs).length = xs.length * sz
  | [] => by simp [flat]
  | x :: xs => by
    have := flat_length h xs
    simp only [flat, List.flatMap_cons, List.length_append, List.length_cons] at *
    rw [h, this, Nat.succ_mul]; omega
theorem flat_append {α : Type} (enc : α → List Value) (xs ys : List α) : flat enc (xs ++ ys) = flat enc xs ++ flat enc ys := by simp [flat]
theorem flat_at {α : Type} {enc : α → List Value} {sz : Nat} (h : ∀ x, (enc x).length = sz) : ∀ (xs : List α) (i : Nat) (hi : i < xs.length) (j : Nat) (x : Value), (enc xs[i])[j]? = some x → (flat enc xs)[i * sz + j]? = some x
  | x :: xs, 0, _, j, v, hv => by
    have hj : j < (enc x).length := (List.getElem?_eq_some_iff.1 hv).1
    simp only [flat, List.flatMap_cons, Nat.zero_mul, Nat.zero_add]
    rw [List.getElem?_append_left hj]; exact hv
  | x :: xs, i + 1, hi, j, v, hv => by
    have := flat_at h xs i (by simpa using hi) j v (by simpa using hv)
    simp only [flat, List.flatMap_cons]
    rw [List.getElem?_append_right (by rw [h, Nat.succ_mul]; omega), h]
    rw [show (i + 1) * sz + j - sz = i * sz + j by rw [Nat.succ_mul]; omega]; exact this
theorem flat_back {α : Type} {enc : α → List Value} {sz : Nat} (h : ∀ x, (enc x).length = sz) : ∀ (xs : List α) (q : Nat) (v : Value), (flat enc xs)[q]? = some v → ∃ i, ∃ hi : i < xs.length, ∃ j, q = i * sz + j ∧ (enc xs[i])[j]? = some v
  | [], q, v, hv => by simp [flat] at hv
  | x :: xs, q, v, hv => by
    simp only [flat, List.flatMap_cons] at hv
    by_cases hq : q < sz
    · rw [List.getElem?_append_left (by rw [h]; exact hq)] at hv
      exact ⟨0, by simp, q, by simp, by simpa using hv⟩
    · rw [List.getElem?_append_right (by rw [h]; omega), h] at hv
      obtain ⟨i, hi, j, e, hj⟩ := flat_back h xs (q - sz) v hv
      exact ⟨i + 1, by simpa using hi, j, by rw [Nat.succ_mul]; omega, by simpa using hj⟩
/-- A slice's cells, for a law on append. -/
theorem Sl.cells {α : Type} {enc : α → List Value} {sz : Nat} (h : ∀ x, (enc x).length = sz) {B : Nat} {w : World} {p : Option Addr} {len cap : Nat} {xs : List α} (hs : Sl sz enc B w (.slice p len cap) xs) :
    ∀ ad, p = some ad → ∀ j u, (flat enc xs)[j]? = some u → w.cell? (ad.add j) = some u := by
  intro ad hp j u hu
  obtain ⟨p', len', cap', h1, h2, h3, h4, h5⟩ := hs
  cases h1
  obtain ⟨i, hi, k, rfl, hk⟩ := flat_back h xs j u hu
  obtain ⟨b, off, e1, e2, e3⟩ := h5 i hi
  rw [e1] at hp
  cases hp
  rw [WideShapes.add_plain, ← Nat.add_assoc]
  exact e3 k u hk
theorem Sl.atNone {α : Type} {enc : α → List Value} {sz : Nat} {B : Nat} {w : World} {len cap : Nat} {xs : List α} (hs : Sl sz enc B w (.slice none len cap) xs) : len = 0 := by
  obtain ⟨p', len', cap', h1, h2, h3, h4, h5⟩ := hs
  cases h1
  rw [h2]
  cases xs with
  | nil => rfl
  | cons x xs => obtain ⟨b, off, e1, _⟩ := h5 0 (by simp); cases e1
/-- A row of the call's own, as owned elements. -/
theorem own_of_flat {α : Type} {enc : α → List Value} {sz : Nat} (hen : ∀ x, (enc x).length = sz) {w : World} {base : Nat} {e : TypeId} {v : Value} {n : Nat} {xs : List α} (hn : n = xs.length) (h : w.ownsRow base e sz v n (flat enc xs)) : ∃ F, OwnSl sz enc w v xs F ∧ ∀ x ∈ F, base ≤ x := by
  subst hn
  obtain ⟨hl, h⟩ := h
  rcases h with ⟨rfl, h0⟩ | ⟨g, cap, cur, rfl, hb, hg, hn, hc, hs, ht⟩
  · exact ⟨[], ⟨none, 0, 0, rfl, h0.symm, Nat.le_refl _, Nat.zero_le _, .inl ⟨List.eq_nil_of_length_eq_zero h0, rfl⟩⟩, by simp⟩
  · refine ⟨[g], ⟨_, _, _, rfl, rfl, hn, hc, .inr ⟨g, 0, rfl, rfl, (Array.getElem?_eq_some_iff.1 hg).1, fun o => by simp [World.frozen?, hg], fun i hi j x hx => ?_⟩⟩, by simpa using hb⟩
    have e1 := flat_at hen xs i hi j x hx
    have hj : j < sz := by rw [← hen xs[i]]; exact (List.getElem?_eq_some_iff.1 hx).1
    have hle : i * sz + sz ≤ xs.length * sz := by rw [← Nat.succ_mul]; exact Nat.mul_le_mul_right _ hi
    rw [← ht, List.getElem?_take_of_lt (by omega)] at e1
    simp only [World.cell?, hg, Nat.zero_add]
    rw [← e1]; simp

/-- The lengths of the first k parts, together. -/
def upTo {α : Type} (L : List (Value × List α)) (k : Nat) : Nat := ((L.take k).map fun x => x.2.length).sum
def joined {α : Type} (L : List (Value × List α)) (k : Nat) : List α := (L.take k).flatMap (·.2)
theorem upTo_succ {α : Type} (L : List (Value × List α)) {k : Nat} (h : k < L.length) : upTo L (k + 1) = upTo L k + L[k].2.length := by
  unfold upTo; rw [List.take_succ_eq_append_getElem h, List.map_append, List.sum_append]; simp
theorem joined_succ {α : Type} (L : List (Value × List α)) {k : Nat} (h : k < L.length) : joined L (k + 1) = joined L k ++ L[k].2 := by
  unfold joined; rw [List.take_succ_eq_append_getElem h, List.flatMap_append]; simp
theorem upTo_le {α : Type} (L : List (Value × List α)) (k : Nat) : upTo L k ≤ upTo L L.length := by
  unfold upTo
  have := congrArg (fun l => (l.map fun x : Value × List α => x.2.length).sum) (List.take_append_drop k L)
  simp only [List.map_append, List.sum_append] at this
  rw [List.take_of_length_le (Nat.le_refl _)]; omega
theorem joined_length {α : Type} (L : List (Value × List α)) : ∀ k, (joined L k).length = upTo L k
  | k => by unfold joined upTo; rw [List.length_flatMap]
theorem run_append_nil0 (w : World) (t ty e : TypeId) (i : TypeInfo) (ht : Try.prog.underlying t = some (.slice e)) (hi : Try.prog.info? e = some i) (p : Option Addr) (c : Nat) :
    (Builtin.append_ #[t, t] ty #[.slice none 0 0, .slice p 0 c]).run Try.prog w = .ok (.slice none 0 0) w := by
  have hf : (Builtin.firstCells i.size 0 (.slice p 0 c)).run Try.prog w = .ok #[] w := by
    cases p with
    | none => exact run_firstCells_none w i.size 0 0 c
    | some a => exact run_firstCells_some w i.size 0 a 0 c [] (by simp) (by simp)
  simp [Builtin.append_, run_underlying ht, sizeOf, typeInfo, hi, Builtin.lenOf, hf]
theorem run_append_room0 (w : World) (t ty e : TypeId) (i : TypeInfo) (ht : Try.prog.underlying t = some (.slice e)) (hi : Try.prog.info? e = some i) (a : Addr) (n gc c : Nat) (hn : n ≤ gc) :
    (Builtin.append_ #[t, t] ty #[.slice (some a) n gc, .slice none 0 c]).run Try.prog w = .ok (.slice (some a) n gc) w := by
  have hf := run_firstCells_none (P := Try.prog) w i.size 0 0 c
  simp [Builtin.append_, run_underlying ht, sizeOf, typeInfo, hi, Builtin.lenOf, hf, hn, storeCells]

theorem flat_oneNode (xs : List Nd) : ∀ u ∈ flat Nd.cells xs, u.oneCell' = true := by
  intro u hu
  obtain ⟨x, _, hx⟩ := List.mem_flatMap.1 hu
  simp [Nd.cells] at hx
  rcases hx with rfl | rfl <;> rfl

theorem flat_oneEdge (xs : List Ed) : ∀ u ∈ flat Ed.cells xs, u.oneCell' = true := by
  intro u hu
  obtain ⟨x, _, hx⟩ := List.mem_flatMap.1 hu
  simp [Ed.cells] at hx
  rcases hx with rfl | rfl | rfl | rfl <;> rfl

end Go.Proofs.Ytfdkmngkpihpbaa
namespace Go.Proofs.Ytfdkmngkpihpbaa
open Go.RowKit

set_option maxRecDepth 100000 in
set_option maxHeartbeats 2000000 in
theorem growStr_any (n : Nat) (w : World) (h0 : 0 < n) (h1 : n ≤ 3000000) :
    Calls Try.prog 112 #[.slice none 0 0, .int .i64 n] w fun e w' => ∃ cap, e = .returned (.slice (some ⟨w.heap.size, 0, none⟩) 0 cap) ∧ n ≤ cap ∧ w'.ownsRow w.heap.size 9 1 (.slice (some ⟨w.heap.size, 0, none⟩) 0 cap) 0 [] ∧ Below w.heap.size w w' := by
  obtain ⟨i0, hi, hz0, hz1, hz2⟩ := info_parts infoStrT
  have hold : (Builtin.firstCells i0.size 0 (.slice none 0 0)).run Try.prog w.drew = .ok ([] : List Value).toArray w.drew := run_firstCells_none w.drew i0.size 0 0 0
  have hrz : ∀ ty, (Builtin.append_ #[30, 3] ty #[.slice none 0 0, .int .i64 (n : Int)]).run Try.prog w =
      .ok (.slice (some ⟨w.heap.size, 0, none⟩) n (grownCap w n 0 9)) (w.drew.alloc (.cells (Builtin.zeroCells (Value.string ⟨#[]⟩).cells n ++ Builtin.zeroCells (Value.string ⟨#[]⟩).cells (grownCap w n 0 9 - n)) 9)) := fun ty => by
    have h := Lib.run_append_grow_zeros w 30 3 ty 9 i0 _ .i64 .i64 Try.underlying30 Try.underlying3 hi hz0 none 0 0 [] hold n h0 (by rw [hz1]; decide) (by omega) (by omega)
      (by rw [hz2]; omega)
      (by rw [Nat.zero_add, hz2, nextslicecap_zero h0]; omega)
    rw [Nat.zero_add] at h
    simpa using h
  have hGn : n ≤ grownCap w n 0 9 := grownCap_ge w _ _ _
  have hG63 : grownCap w n 0 9 ≤ maxLen := grownCap_le_maxLen w n 0 9 (by unfold maxLen; omega)
  obtain ⟨G, hG⟩ : ∃ G, G = grownCap w n 0 9 := ⟨_, rfl⟩
  rw [← hG] at hrz hGn hG63
  clear hold hG
  have HO := Lib.hid (World.ownsRow_made (e := 9) (size := 1) w.drew (Builtin.zeroCells (Value.string ⟨#[]⟩).cells n ++ Builtin.zeroCells (Value.string ⟨#[]⟩).cells (G - n)) G (Nat.le_refl _) hG63
    (by rw [Array.size_append, size_zeroCells, size_zeroCells, ← Nat.add_mul, Nat.add_sub_cancel' hGn]; rfl))
  have hG63' : G ≤ 9223372036854775807 := by unfold maxLen at hG63; omega
  go_enter Try.func112, Try.ntmps112
  go_wp2_with (at_builtin; refine Lib.wpList_append_run _ rfl _ _ _ _ rfl _ _ rfl rfl _ _ (hrz _) ?_)
  go_ret
  exact ⟨G, rfl, hGn, HO.out, (Below.refl _ w).drew.alloc (Nat.le_refl _) _⟩

theorem flat_oneStr (xs : List ByteArray) : ∀ u ∈ flat strCells xs, u.oneCell' = true := by
  intro u hu
  obtain ⟨x, _, hx⟩ := List.mem_flatMap.1 hu
  simp [strCells] at hx
  subst hx; rfl

set_option maxHeartbeats 400000 in
theorem growStr_zero (w : World) :
    Calls Try.prog 112 #[.slice none 0 0, .int .i64 0] w fun e w' => e = .returned (.slice none 0 0) ∧ w = w' := by
  go_enter Try.func112, Try.ntmps112
  go_wp2_with fail
  go_ret
  exact ⟨rfl, rfl⟩

set_option maxRecDepth 100000 in
set_option maxHeartbeats 4000000 in
theorem concatStr_any (L : List (Value × List ByteArray)) (b cap B : Nat) (w : World) (hc : ∀ i (hi : i < L.length), w.cell? ⟨b, i, none⟩ = some L[i].1) (hs : ∀ i (hi : i < L.length), Sl 1 strCells B w L[i].1 L[i].2) (hB : B ≤ w.heap.size)
    (hlen : L.length ≤ 10) (htot : upTo L L.length ≤ 3000000) (hbw : b < w.heap.size) :
    Calls Try.prog 91 #[.slice (some ⟨b, 0, none⟩) L.length cap] w fun e w' => ∃ v' F, e = .returned v' ∧ OwnSl 1 strCells w' v' (joined L L.length) F ∧ (∀ x ∈ F, w.heap.size ≤ x) ∧ Below w.heap.size w w' := by
  obtain ⟨i0, hi, hz0, hz1, hz2⟩ := info_parts infoStrT
  have HCC := Lib.hid hc
  have HSS := Lib.hid hs
  clear hc hs
  go_enter Try.func91, Try.ntmps91
  go_wp2_with fail
  go_loop [3, 11] (fun z i => ∃ (k m : Nat), k ≤ L.length ∧ i = .int .i64 k ∧ z = .int .i64 m ∧ m ≤ 3000000 ∧ RowKit.Hid (m = upTo L k)) (fun _ i => L.length - (intOf i).toNat)
  case atStart => exact ⟨0, 0, Nat.zero_le _, rfl, rfl, by omega, Lib.hid (by simp [upTo])⟩
  case round =>
    obtain ⟨k, m, hk, rfl, rfl, hm, HM⟩ := hrel
    by_cases hlt : k < L.length
    · have c0 := HCC.out k hlt
      obtain ⟨p, cp, hf⟩ := (HSS.out k hlt).form
      have hmx := (hf ▸ HSS.out k hlt : Sl 1 strCells B w (.slice p L[k].2.length cp) L[k].2).max
      rw [hf] at c0
      have hu := upTo_succ L hlt
      have hul := upTo_le L (k + 1)
      have HN := Lib.hid (show m + L[k].2.length = upTo L (k + 1) by have := HM.out; omega)
      have hb2 : m + L[k].2.length ≤ 3000000 := by have := HM.out; omega
      obtain ⟨n, en⟩ : ∃ n, n = L[k].2.length := ⟨_, rfl⟩
      rw [← en] at c0 HN hb2
      clear en hf hu hul hmx
      go_wp2_with fail
      go_round
      case rel => exact ⟨k + 1, m + n, by omega, by go_num, by go_num, hb2, HN⟩
      case measure => simp [intOf]; omega
    · obtain rfl : k = L.length := by omega
      by_cases hz : m = 0
      · subst hz
        have hz' : ∀ i (hi : i < L.length), L[i].2.length = 0 := fun i hi => by
          have h1 := upTo_succ L hi
          have h2 := upTo_le L (i + 1)
          have h3 := HM.out
          omega
        have HZ := Lib.hid hz'
        clear hz'
        go_wp2_with fail
        refine (growStr_zero _).mono ?_
        rintro e w1 ⟨rfl, rfl⟩
        go_wp2_with fail
        go_loopw [6, 27] (fun ns i wr => ∃ k : Nat, k ≤ L.length ∧ i = .int .i64 k ∧ ns = .slice none 0 0 ∧ wr = w) (fun _ i _ => L.length - (intOf i).toNat)
        case atStart => exact ⟨0, Nat.zero_le _, rfl, rfl, rfl⟩
        case round =>
          obtain ⟨k, hk, rfl, rfl, rfl⟩ := hrel
          by_cases hlt2 : k < L.length
          · have c0 := HCC.out k hlt2
            obtain ⟨p, cp, hf⟩ := (HSS.out k hlt2).form
            rw [hf, HZ.out k hlt2] at c0
            clear hf
            go_wp2_with (at_builtin; refine Lib.wpList_append_run _ rfl _ _ _ _ rfl _ _ rfl rfl _ _ (run_append_nil0 _ 30 _ 9 i0 Try.underlying30 hi p cp) ?_)
            go_roundw
            case rel => exact ⟨k + 1, by omega, by go_num, rfl, trivial⟩
            case measure => simp [intOf]; omega
          · obtain rfl : k = L.length := by omega
            go_wp2_with fail
            go_ret
            have hj : joined L L.length = [] := List.eq_nil_of_length_eq_zero (by rw [joined_length]; exact HM.out.symm)
            exact ⟨_, [], rfl, by rw [hj]; exact ⟨none, 0, 0, rfl, rfl, Nat.le_refl _, Nat.zero_le _, .inl ⟨rfl, rfl⟩⟩, by simp, Below.refl _ _⟩
      · have hmp : 0 < m := by omega
        go_wp2_with fail
        refine (growStr_any m _ hmp hm).mono ?_
        rintro e w1 ⟨gc, rfl, hgc, hown, hb1⟩
        have HO := Lib.hid hown
        have HB1 := Lib.hid hb1
        have hw1 : w.heap.size < w1.heap.size := by
          obtain ⟨_, h2⟩ := hown
          rcases h2 with ⟨h2, _⟩ | ⟨g, cp, cur, h2, hbb, hg, _⟩
          · cases h2
          · cases h2; exact (Array.getElem?_eq_some_iff.1 hg).1
        clear hown hb1
        go_wp2_with fail
        go_loopw [6, 27] (fun ns i wr => ∃ (k n : Nat), k ≤ L.length ∧ i = .int .i64 k ∧ ns = .slice (some ⟨w.heap.size, 0, none⟩) n gc ∧ RowKit.Hid (n = upTo L k) ∧ wr.ownsRow w.heap.size 9 1 (.slice (some ⟨w.heap.size, 0, none⟩) n gc) n (flat strCells (joined L k)) ∧ Below w.heap.size w wr) (fun _ i _ => L.length - (intOf i).toNat)
        case atStart => exact ⟨0, 0, Nat.zero_le _, rfl, rfl, Lib.hid (by simp [upTo]), HO.out, HB1.out⟩
        case round =>
          obtain ⟨k, n, hk, rfl, rfl, hn, hown, hbw2⟩ := hrel
          have hsz := hbw2.size
          have HB := Lib.hid hbw2
          have HOW := Lib.hid hown
          clear hbw2 hown
          by_cases hlt2 : k < L.length
          · have c0 := keepc HB.out hbw (HCC.out k hlt2)
            have hsl := (HSS.out k hlt2).below (HB.out.mono hB)
            obtain ⟨p, cp, hf⟩ := (HSS.out k hlt2).form
            rw [hf] at c0 hsl
            have hu := upTo_succ L hlt2
            have hul := upTo_le L (k + 1)
            have hfit : n + L[k].2.length ≤ gc := by have := hn.out; have := HM.out; omega
            have HN := Lib.hid (show n + L[k].2.length = upTo L (k + 1) by have := hn.out; omega)
            have HJ := Lib.hid (show flat strCells (joined L k) ++ flat strCells L[k].2 = flat strCells (joined L (k + 1)) by rw [joined_succ L hlt2, flat_append])
            have HS := Lib.hid hsl
            have HFL := Lib.hid (flat_length (enc := strCells) (sz := 1) (fun _ => rfl) L[k].2)
            have HCE := Lib.hid (Sl.cells (sz := 1) (enc := strCells) (fun _ => rfl) hsl)
            have HZE := Lib.hid (show p = none → L[k].2.length = 0 from fun h => by subst h; exact hsl.atNone)
            obtain ⟨ys, ey⟩ : ∃ ys, ys = L[k].2 := ⟨_, rfl⟩
            rw [← ey] at c0 hfit HN HJ HFL HCE HZE
            clear hsl HS ey hf hu hul
            cases p with
            | none =>
              have hy0 := HZE.out rfl
              obtain rfl : ys = [] := List.eq_nil_of_length_eq_zero hy0
              clear hy0
              go_wp2_with (at_builtin; refine Lib.wpList_append_run _ rfl _ _ _ _ rfl _ _ rfl rfl _ _ (run_append_room0 _ 30 _ 9 i0 Try.underlying30 hi _ n gc cp (by simpa using hfit)) ?_)
              have HO2 := Lib.hid (show wr.ownsRow w.heap.size 9 1 (.slice (some ⟨w.heap.size, 0, none⟩) n gc) n (flat strCells (joined L (k + 1))) by rw [← HJ.out]; simpa [flat] using HOW.out)
              go_roundw
              case rel => exact ⟨k + 1, n, by omega, by go_num, rfl, HN, HO2.out, HB.out⟩
              case measure => simp [intOf]; omega
            | some pp =>
              go_wp2_with (at_builtin; refine wpList_append_fits_any _ rfl _ _ 30 rfl w.heap.size 9 i0 1 Try.underlying30 hi hz1 w.heap.size n gc _ rfl HOW.out (some pp) ys.length cp (flat strCells ys) rfl HFL.out (fun h => by cases h) HCE.out (flat_oneStr ys) hfit ?_)
              intro w2 hown2 hgrow
              have HB2 := Lib.hid (HB.out.grown hgrow hsz (fun q hq => by cases hq; exact Nat.le_refl _))
              have HO2 := Lib.hid (show w2.ownsRow w.heap.size 9 1 (.slice (some ⟨w.heap.size, 0, none⟩) (n + ys.length) gc) (n + ys.length) (flat strCells (joined L (k + 1))) by rw [← HJ.out]; exact hown2)
              clear hown2 hgrow
              go_wp2_with fail
              go_roundw
              case rel => exact ⟨k + 1, n + ys.length, by omega, by go_num, rfl, HN, HO2.out, HB2.out⟩
              case measure => simp [intOf]; omega
          · obtain rfl : k = L.length := by omega
            go_wp2_with fail
            go_ret
            obtain ⟨F, h1, h2⟩ := own_of_flat (enc := strCells) (sz := 1) (fun _ => rfl) (n := n) (xs := joined L L.length) (by rw [joined_length]; exact hn.out) HOW.out
            exact ⟨_, F, rfl, h1, h2, HB.out⟩
end Go.Proofs.Ytfdkmngkpihpbaa
namespace Go.Proofs.Ytfdkmngkpihpbaa
open Go.RowKit

set_option maxRecDepth 100000 in
set_option maxHeartbeats 2000000 in
theorem growInt_any (n : Nat) (w : World) (h0 : 0 < n) (h1 : n ≤ 3000000) :
    Calls Try.prog 113 #[.slice none 0 0, .int .i64 n] w fun e w' => ∃ cap, e = .returned (.slice (some ⟨w.heap.size, 0, none⟩) 0 cap) ∧ n ≤ cap ∧ w'.ownsRow w.heap.size 3 1 (.slice (some ⟨w.heap.size, 0, none⟩) 0 cap) 0 [] ∧ Below w.heap.size w w' := by
  obtain ⟨i0, hi, hz0, hz1, hz2⟩ := info_parts infoIntW
  have hold : (Builtin.firstCells i0.size 0 (.slice none 0 0)).run Try.prog w.drew = .ok ([] : List Value).toArray w.drew := run_firstCells_none w.drew i0.size 0 0 0
  have hrz : ∀ ty, (Builtin.append_ #[23, 3] ty #[.slice none 0 0, .int .i64 (n : Int)]).run Try.prog w =
      .ok (.slice (some ⟨w.heap.size, 0, none⟩) n (grownCap w n 0 3)) (w.drew.alloc (.cells (Builtin.zeroCells (Value.int .i64 0).cells n ++ Builtin.zeroCells (Value.int .i64 0).cells (grownCap w n 0 3 - n)) 3)) := fun ty => by
    have h := Lib.run_append_grow_zeros w 23 3 ty 3 i0 _ .i64 .i64 Try.underlying23 Try.underlying3 hi hz0 none 0 0 [] hold n h0 (by rw [hz1]; decide) (by omega) (by omega)
      (by rw [hz2]; omega)
      (by rw [Nat.zero_add, hz2, nextslicecap_zero h0]; omega)
    rw [Nat.zero_add] at h
    simpa using h
  have hGn : n ≤ grownCap w n 0 3 := grownCap_ge w _ _ _
  have hG63 : grownCap w n 0 3 ≤ maxLen := grownCap_le_maxLen w n 0 3 (by unfold maxLen; omega)
  obtain ⟨G, hG⟩ : ∃ G, G = grownCap w n 0 3 := ⟨_, rfl⟩
  rw [← hG] at hrz hGn hG63
  clear hold hG
  have HO := Lib.hid (World.ownsRow_made (e := 3) (size := 1) w.drew (Builtin.zeroCells (Value.int .i64 0).cells n ++ Builtin.zeroCells (Value.int .i64 0).cells (G - n)) G (Nat.le_refl _) hG63
    (by rw [Array.size_append, size_zeroCells, size_zeroCells, ← Nat.add_mul, Nat.add_sub_cancel' hGn]; rfl))
  have hG63' : G ≤ 9223372036854775807 := by unfold maxLen at hG63; omega
  go_enter Try.func113, Try.ntmps113
  go_wp2_with (at_builtin; refine Lib.wpList_append_run _ rfl _ _ _ _ rfl _ _ rfl rfl _ _ (hrz _) ?_)
  go_ret
  exact ⟨G, rfl, hGn, HO.out, (Below.refl _ w).drew.alloc (Nat.le_refl _) _⟩

theorem flat_oneInt (xs : List Int) : ∀ u ∈ flat intCells xs, u.oneCell' = true := by
  intro u hu
  obtain ⟨x, _, hx⟩ := List.mem_flatMap.1 hu
  simp [intCells] at hx
  subst hx; rfl

set_option maxHeartbeats 400000 in
theorem growInt_zero (w : World) :
    Calls Try.prog 113 #[.slice none 0 0, .int .i64 0] w fun e w' => e = .returned (.slice none 0 0) ∧ w = w' := by
  go_enter Try.func113, Try.ntmps113
  go_wp2_with fail
  go_ret
  exact ⟨rfl, rfl⟩

set_option maxRecDepth 100000 in
set_option maxHeartbeats 4000000 in
theorem concatInt_any (L : List (Value × List Int)) (b cap B : Nat) (w : World) (hc : ∀ i (hi : i < L.length), w.cell? ⟨b, i, none⟩ = some L[i].1) (hs : ∀ i (hi : i < L.length), Sl 1 intCells B w L[i].1 L[i].2) (hB : B ≤ w.heap.size)
    (hlen : L.length ≤ 10) (htot : upTo L L.length ≤ 3000000) (hbw : b < w.heap.size) :
    Calls Try.prog 92 #[.slice (some ⟨b, 0, none⟩) L.length cap] w fun e w' => ∃ v' F, e = .returned v' ∧ OwnSl 1 intCells w' v' (joined L L.length) F ∧ (∀ x ∈ F, w.heap.size ≤ x) ∧ Below w.heap.size w w' := by
  obtain ⟨i0, hi, hz0, hz1, hz2⟩ := info_parts infoIntW
  have HCC := Lib.hid hc
  have HSS := Lib.hid hs
  clear hc hs
  go_enter Try.func92, Try.ntmps92
  go_wp2_with fail
  go_loop [3, 11] (fun z i => ∃ (k m : Nat), k ≤ L.length ∧ i = .int .i64 k ∧ z = .int .i64 m ∧ m ≤ 3000000 ∧ RowKit.Hid (m = upTo L k)) (fun _ i => L.length - (intOf i).toNat)
  case atStart => exact ⟨0, 0, Nat.zero_le _, rfl, rfl, by omega, Lib.hid (by simp [upTo])⟩
  case round =>
    obtain ⟨k, m, hk, rfl, rfl, hm, HM⟩ := hrel
    by_cases hlt : k < L.length
    · have c0 := HCC.out k hlt
      obtain ⟨p, cp, hf⟩ := (HSS.out k hlt).form
      have hmx := (hf ▸ HSS.out k hlt : Sl 1 intCells B w (.slice p L[k].2.length cp) L[k].2).max
      rw [hf] at c0
      have hu := upTo_succ L hlt
      have hul := upTo_le L (k + 1)
      have HN := Lib.hid (show m + L[k].2.length = upTo L (k + 1) by have := HM.out; omega)
      have hb2 : m + L[k].2.length ≤ 3000000 := by have := HM.out; omega
      obtain ⟨n, en⟩ : ∃ n, n = L[k].2.length := ⟨_, rfl⟩
      rw [← en] at c0 HN hb2
      clear en hf hu hul hmx
      go_wp2_with fail
      go_round
      case rel => exact ⟨k + 1, m + n, by omega, by go_num, by go_num, hb2, HN⟩
      case measure => simp [intOf]; omega
    · obtain rfl : k = L.length := by omega
      by_cases hz : m = 0
      · subst hz
        have hz' : ∀ i (hi : i < L.length), L[i].2.length = 0 := fun i hi => by
          have h1 := upTo_succ L hi
          have h2 := upTo_le L (i + 1)
          have h3 := HM.out
          omega
        have HZ := Lib.hid hz'
        clear hz'
        go_wp2_with fail
        refine (growInt_zero _).mono ?_
        rintro e w1 ⟨rfl, rfl⟩
        go_wp2_with fail
        go_loopw [6, 27] (fun ns i wr => ∃ k : Nat, k ≤ L.length ∧ i = .int .i64 k ∧ ns = .slice none 0 0 ∧ wr = w) (fun _ i _ => L.length - (intOf i).toNat)
        case atStart => exact ⟨0, Nat.zero_le _, rfl, rfl, rfl⟩
        case round =>
          obtain ⟨k, hk, rfl, rfl, rfl⟩ := hrel
          by_cases hlt2 : k < L.length
          · have c0 := HCC.out k hlt2
            obtain ⟨p, cp, hf⟩ := (HSS.out k hlt2).form
            rw [hf, HZ.out k hlt2] at c0
            clear hf
            go_wp2_with (at_builtin; refine Lib.wpList_append_run _ rfl _ _ _ _ rfl _ _ rfl rfl _ _ (run_append_nil0 _ 23 _ 3 i0 Try.underlying23 hi p cp) ?_)
            go_roundw
            case rel => exact ⟨k + 1, by omega, by go_num, rfl, trivial⟩
            case measure => simp [intOf]; omega
          · obtain rfl : k = L.length := by omega
            go_wp2_with fail
            go_ret
            have hj : joined L L.length = [] := List.eq_nil_of_length_eq_zero (by rw [joined_length]; exact HM.out.symm)
            exact ⟨_, [], rfl, by rw [hj]; exact ⟨none, 0, 0, rfl, rfl, Nat.le_refl _, Nat.zero_le _, .inl ⟨rfl, rfl⟩⟩, by simp, Below.refl _ _⟩
      · have hmp : 0 < m := by omega
        go_wp2_with fail
        refine (growInt_any m _ hmp hm).mono ?_
        rintro e w1 ⟨gc, rfl, hgc, hown, hb1⟩
        have HO := Lib.hid hown
        have HB1 := Lib.hid hb1
        have hw1 : w.heap.size < w1.heap.size := by
          obtain ⟨_, h2⟩ := hown
          rcases h2 with ⟨h2, _⟩ | ⟨g, cp, cur, h2, hbb, hg, _⟩
          · cases h2
          · cases h2; exact (Array.getElem?_eq_some_iff.1 hg).1
        clear hown hb1
        go_wp2_with fail
        go_loopw [6, 27] (fun ns i wr => ∃ (k n : Nat), k ≤ L.length ∧ i = .int .i64 k ∧ ns = .slice (some ⟨w.heap.size, 0, none⟩) n gc ∧ RowKit.Hid (n = upTo L k) ∧ wr.ownsRow w.heap.size 3 1 (.slice (some ⟨w.heap.size, 0, none⟩) n gc) n (flat intCells (joined L k)) ∧ Below w.heap.size w wr) (fun _ i _ => L.length - (intOf i).toNat)
        case atStart => exact ⟨0, 0, Nat.zero_le _, rfl, rfl, Lib.hid (by simp [upTo]), HO.out, HB1.out⟩
        case round =>
          obtain ⟨k, n, hk, rfl, rfl, hn, hown, hbw2⟩ := hrel
          have hsz := hbw2.size
          have HB := Lib.hid hbw2
          have HOW := Lib.hid hown
          clear hbw2 hown
          by_cases hlt2 : k < L.length
          · have c0 := keepc HB.out hbw (HCC.out k hlt2)
            have hsl := (HSS.out k hlt2).below (HB.out.mono hB)
            obtain ⟨p, cp, hf⟩ := (HSS.out k hlt2).form
            rw [hf] at c0 hsl
            have hu := upTo_succ L hlt2
            have hul := upTo_le L (k + 1)
            have hfit : n + L[k].2.length ≤ gc := by have := hn.out; have := HM.out; omega
            have HN := Lib.hid (show n + L[k].2.length = upTo L (k + 1) by have := hn.out; omega)
            have HJ := Lib.hid (show flat intCells (joined L k) ++ flat intCells L[k].2 = flat intCells (joined L (k + 1)) by rw [joined_succ L hlt2, flat_append])
            have HS := Lib.hid hsl
            have HFL := Lib.hid (flat_length (enc := intCells) (sz := 1) (fun _ => rfl) L[k].2)
            have HCE := Lib.hid (Sl.cells (sz := 1) (enc := intCells) (fun _ => rfl) hsl)
            have HZE := Lib.hid (show p = none → L[k].2.length = 0 from fun h => by subst h; exact hsl.atNone)
            obtain ⟨ys, ey⟩ : ∃ ys, ys = L[k].2 := ⟨_, rfl⟩
            rw [← ey] at c0 hfit HN HJ HFL HCE HZE
            clear hsl HS ey hf hu hul
            cases p with
            | none =>
              have hy0 := HZE.out rfl
              obtain rfl : ys = [] := List.eq_nil_of_length_eq_zero hy0
              clear hy0
              go_wp2_with (at_builtin; refine Lib.wpList_append_run _ rfl _ _ _ _ rfl _ _ rfl rfl _ _ (run_append_room0 _ 23 _ 3 i0 Try.underlying23 hi _ n gc cp (by simpa using hfit)) ?_)
              have HO2 := Lib.hid (show wr.ownsRow w.heap.size 3 1 (.slice (some ⟨w.heap.size, 0, none⟩) n gc) n (flat intCells (joined L (k + 1))) by rw [← HJ.out]; simpa [flat] using HOW.out)
              go_roundw
              case rel => exact ⟨k + 1, n, by omega, by go_num, rfl, HN, HO2.out, HB.out⟩
              case measure => simp [intOf]; omega
            | some pp =>
              go_wp2_with (at_builtin; refine wpList_append_fits_any _ rfl _ _ 23 rfl w.heap.size 3 i0 1 Try.underlying23 hi hz1 w.heap.size n gc _ rfl HOW.out (some pp) ys.length cp (flat intCells ys) rfl HFL.out (fun h => by cases h) HCE.out (flat_oneInt ys) hfit ?_)
              intro w2 hown2 hgrow
              have HB2 := Lib.hid (HB.out.grown hgrow hsz (fun q hq => by cases hq; exact Nat.le_refl _))
              have HO2 := Lib.hid (show w2.ownsRow w.heap.size 3 1 (.slice (some ⟨w.heap.size, 0, none⟩) (n + ys.length) gc) (n + ys.length) (flat intCells (joined L (k + 1))) by rw [← HJ.out]; exact hown2)
              clear hown2 hgrow
              go_wp2_with fail
              go_roundw
              case rel => exact ⟨k + 1, n + ys.length, by omega, by go_num, rfl, HN, HO2.out, HB2.out⟩
              case measure => simp [intOf]; omega
          · obtain rfl : k = L.length := by omega
            go_wp2_with fail
            go_ret
            obtain ⟨F, h1, h2⟩ := own_of_flat (enc := intCells) (sz := 1) (fun _ => rfl) (n := n) (xs := joined L L.length) (by rw [joined_length]; exact hn.out) HOW.out
            exact ⟨_, F, rfl, h1, h2, HB.out⟩
end Go.Proofs.Ytfdkmngkpihpbaa
namespace Go.Proofs.Ytfdkmngkpihpbaa
open Go.RowKit

def turnE (x : Ed) : Ed := ⟨x.t, x.f, x.l, x.n⟩
def tgr (g : Gr) : Gr := if gv g then ⟨g.ns, g.es.map turnE⟩ else ⟨[], []⟩
theorem row_form {w : World} {base : Nat} {e : TypeId} {size : Nat} {v : Value} {n : Nat} {xs : List Value} (h : w.ownsRow base e size v n xs) : ∃ p c, v = .slice p n c := by
  rcases h.2 with ⟨rfl, rfl⟩ | ⟨g, cap, cur, rfl, _⟩
  · exact ⟨none, 0, rfl⟩
  · exact ⟨_, _, rfl⟩
theorem gv_ns {g : Gr} (h : gv g = true) : g.ns.length ≤ 8 := by
  unfold gv at h
  simp only [Bool.and_eq_true, decide_eq_true_eq] at h
  omega
theorem Gr.Own.empty (lo : Nat) (w : World) : (⟨[], []⟩ : Gr).Own lo w (.agg #[.slice none 0 0, .slice none 0 0]) [] [] :=
  ⟨_, _, rfl, ⟨none, 0, 0, rfl, rfl, Nat.le_refl _, Nat.zero_le _, .inl ⟨rfl, rfl⟩⟩, ⟨none, 0, 0, rfl, rfl, Nat.le_refl _, Nat.zero_le _, .inl ⟨rfl, rfl⟩⟩, by simp, by simp, by simp⟩

end Go.Proofs.Ytfdkmngkpihpbaa
namespace Go.Proofs.Ytfdkmngkpihpbaa
open Go.RowKit

def byCells (z : Int) : List Value := [.int .u8 z]
/-- A drawing source in block a, n bytes of which have been asked for. -/
def Rd (w : World) (a n : Nat) : Prop :=
  ∃ (p : Option Addr) (cap : Nat) (zs : List Int), w.heap[a]? = some (.cells #[.slice p zs.length cap, .int .i64 n] 105 (0, 0)) ∧ Sl 1 byCells a w (.slice p zs.length cap) zs ∧ (∀ z ∈ zs, 0 ≤ z ∧ z ≤ 255) ∧ zs.length ≤ 2000
theorem Sl.by {B : Nat} {w : World} {p : Option Addr} {len cap : Nat} {xs : List Int} (h : Sl 1 byCells B w (.slice p len cap) xs) {k : Nat} (hk : k < xs.length) :
    ∃ b off, p = some ⟨b, off, none⟩ ∧ b < B ∧ w.cell? ⟨b, off + k, none⟩ = some (.int .u8 xs[k]) := by
  obtain ⟨p', len', cap', h1, h2, h3, h4, h5⟩ := h
  cases h1
  obtain ⟨b, off, e1, e2, e3⟩ := h5 k hk
  have := e3 0 _ rfl
  rw [Nat.mul_one, Nat.add_zero] at this
  exact ⟨b, off, e1, e2, this⟩
theorem Rd.lt {w : World} {a n : Nat} (h : Rd w a n) : a < w.heap.size := by
  obtain ⟨p, cap, zs, h1, _⟩ := h
  exact (Array.getElem?_eq_some_iff.1 h1).1
theorem Rd.keep {w w' : World} {a n : Nat} (h : Rd w a n) (hb : ∀ k, k ≤ a → w'.heap[k]? = w.heap[k]?) : Rd w' a n := by
  obtain ⟨p, cap, zs, h1, h2, h3, h4⟩ := h
  refine ⟨p, cap, zs, (hb a (Nat.le_refl _)).trans h1, ?_, h3, h4⟩
  obtain ⟨p', len', cap', e1, e2, e3, e4, e5⟩ := h2
  refine ⟨p', len', cap', e1, e2, e3, e4, fun i hi => ?_⟩
  obtain ⟨b, off, q1, q2, q3⟩ := e5 i hi
  exact ⟨b, off, q1, q2, fun j x hx => (World.cell?_of_block (w := w) (a := ⟨b, _, none⟩) (hb b (by omega))).trans (q3 j x hx)⟩
theorem Rd.below {w w' : World} {a n B : Nat} (h : Rd w a n) (hb : Below B w w') (hB : a < B) : Rd w' a n := h.keep fun k hk => hb.block k (by omega)
theorem Rd.next {w : World} {a n : Nat} (h : Rd w a n) : Rd (w.setCell ⟨a, 1, none⟩ (.int .i64 ((n : Int) + 1))) a (n + 1) := by
  obtain ⟨p, cap, zs, h1, h2, h3, h4⟩ := h
  refine ⟨p, cap, zs, ?_, ?_, h3, h4⟩
  · simp [World.setCell, Array.getElem?_modify, h1]
  · obtain ⟨p', len', cap', e1, e2, e3, e4, e5⟩ := h2
    refine ⟨p', len', cap', e1, e2, e3, e4, fun i hi => ?_⟩
    obtain ⟨b, off, q1, q2, q3⟩ := e5 i hi
    exact ⟨b, off, q1, q2, fun j x hx => (set_far _ _ _ _ _ _ (by omega)).trans (q3 j x hx)⟩

theorem xor_nonneg (X : Int) (h0 : 0 ≤ X) (h1 : X < 9223372036854775808) : 0 ≤ bits .xor .i64 X (X / 64) := by
  obtain ⟨a, rfl⟩ := Int.eq_ofNat_of_zero_le h0
  have ha : a < 2 ^ 63 := by omega
  have hb : a / 64 < 2 ^ 63 := by omega
  have e : ((a : Int) / 64) = ((a / 64 : Nat) : Int) := rfl
  rw [e]
  have ha' : a % 2 ^ 64 = a := Nat.mod_eq_of_lt (by omega)
  have hb' : (a / 64) % 2 ^ 64 = a / 64 := Nat.mod_eq_of_lt (by omega)
  have hc : a ^^^ (a / 64) < 2 ^ 63 := Nat.xor_lt_two_pow ha hb
  have e2 : (BitVec.ofInt 64 (a : Int) ^^^ BitVec.ofInt 64 ((a / 64 : Nat) : Int)).toNat = a ^^^ (a / 64) := by
    rw [BitVec.toNat_xor, BitVec.ofInt_natCast, BitVec.ofInt_natCast, BitVec.toNat_ofNat, BitVec.toNat_ofNat, ha', hb']
  show 0 ≤ IntKind.i64.wrap ((BitVec.ofInt 64 (a : Int) ^^^ BitVec.ofInt 64 ((a / 64 : Nat) : Int)).toNat : Int)
  rw [e2, IntKind.wrap_i64]
  omega
theorem Chg.drewN {F : List Nat} {a w : World} (h : Chg F a w) (n : Nat) : Chg F a (w.drewN n) := by
  exact ⟨h.os, h.tape, h.output, h.size, h.block⟩
theorem Rd.drewN {w : World} {a n : Nat} (h : Rd w a n) (k : Nat) : Rd (w.drewN k) a n := by
  exact h.keep fun _ _ => rfl
def top (m : Int) : Int := if 1 ≤ m then m else 1
theorem top_pos (m : Int) : 0 < top m := by unfold top; split <;> omega
theorem top_of {m : Int} (h : 1 ≤ m) : top m = m := if_pos h
/-- What a draw answers: a number below m, or 0. -/
def Picked (m : Int) (a n : Nat) (w : World) (e : Ending) (w' : World) : Prop :=
  ∃ q : Int, e = .returned (.int .i64 q) ∧ 0 ≤ q ∧ q < top m ∧ Rd w' a (n + 1) ∧ Chg [a] w w'

set_option maxRecDepth 100000 in
set_option maxHeartbeats 2000000 in
theorem pick_any (m : Int) (a n : Nat) (w : World) (h : Rd w a n) (hn : n ≤ 1000000) :
    Calls Try.prog 87 #[.pointer (some ⟨a, 0, none⟩), .int .i64 m] w (Picked m a n w) := by
  have HN := Lib.hid h.next
  have hal := h.lt
  obtain ⟨p, cap, zs, h1, h2, h3, h4⟩ := h
  have c0 : w.cell? ⟨a, 0, none⟩ = some (.slice p zs.length cap) := by simp [World.cell?, h1]
  have c1 : w.cell? ⟨a, 1, none⟩ = some (.int .i64 n) := by simp [World.cell?, h1]
  have f1 : w.frozen? ⟨a, 1, none⟩ = false := by simp [World.frozen?, h1]
  have HC := Lib.hid ((Chg.refl [a] w).setCell (p := ⟨a, 1, none⟩) (by simp) (.int .i64 ((n : Int) + 1)))
  clear h1
  by_cases hm : m < 1
  · have HM := Lib.hid (top_pos m)
    go_enter Try.func87, Try.ntmps87
    go_wp2_with fail
    go_ret
    exact ⟨0, rfl, Int.le_refl _, HM.out, HN.out, HC.out⟩
  · have hm1 : 1 ≤ m := by omega
    have HM := Lib.hid (top_of hm1)
    clear hm
    by_cases hz : zs.length = 0
    · have q0 : ((zs.length : Int) == 0) = true := beq_iff_eq.2 (by omega)
      clear hz
      go_enter Try.func87, Try.ntmps87
      go_wp2_with fail
      go_ret
      exact ⟨0, rfl, Int.le_refl _, by rw [HM.out]; show (0 : Int) < m; omega, HN.out, HC.out⟩
    · have q0 : ((zs.length : Int) == 0) = false := beq_eq_false_iff_ne.2 (by omega)
      have hz1 : 1 ≤ zs.length := by omega
      clear hz
      by_cases hk : n < zs.length
      · obtain ⟨b, off, rfl, hb, cb⟩ := h2.by hk
        have hx := h3 _ (List.getElem_mem hk)
        obtain ⟨x, ex⟩ : ∃ x, x = zs[n] := ⟨_, rfl⟩
        rw [← ex] at cb hx
        clear ex
        obtain ⟨x0, x1⟩ := hx
        have hne : a ≠ b := by omega
        go_enter Try.func87, Try.ntmps87
        go_wp2_with fail
        go_ret
        exact ⟨x % m, rfl, Int.emod_nonneg _ (by omega), by rw [HM.out]; exact Int.emod_lt_of_pos _ (by omega), HN.out, HC.out⟩
      · have hr1 : n % zs.length < zs.length := Nat.mod_lt _ (by omega)
        have hr2 : (n * 7 + 3) % zs.length < zs.length := Nat.mod_lt _ (by omega)
        obtain ⟨b, off, rfl, hb, cb⟩ := h2.by hr1
        obtain ⟨b', off', e', hb', cb'⟩ := h2.by hr2
        cases e'
        have hx := h3 _ (List.getElem_mem hr1)
        have hy := h3 _ (List.getElem_mem hr2)
        obtain ⟨x, ex⟩ : ∃ x, x = zs[n % zs.length] := ⟨_, rfl⟩
        obtain ⟨y, ey⟩ : ∃ y, y = zs[(n * 7 + 3) % zs.length] := ⟨_, rfl⟩
        rw [← ex] at cb hx
        rw [← ey] at cb' hy
        clear ex ey
        obtain ⟨x0, x1⟩ := hx
        obtain ⟨y0, y1⟩ := hy
        have hne : a ≠ b := by omega
        have j1 : (0 : Int) ≤ (n : Int) / (zs.length : Int) := Int.ediv_nonneg (by omega) (by omega)
        have j2 : (n : Int) / (zs.length : Int) ≤ 1000000 := Int.le_trans (Int.ediv_le_self _ (by omega)) (by omega)
        have i1 : (0 : Int) ≤ (n : Int) % (zs.length : Int) := Int.emod_nonneg _ (by omega)
        have i2 : (n : Int) % (zs.length : Int) < (zs.length : Int) := Int.emod_lt_of_pos _ (by omega)
        have i3 : (0 : Int) ≤ ((n : Int) * 7 + 3) % (zs.length : Int) := Int.emod_nonneg _ (by omega)
        have i4 : ((n : Int) * 7 + 3) % (zs.length : Int) < (zs.length : Int) := Int.emod_lt_of_pos _ (by omega)
        have hxor := xor_nonneg (x * 131 + y * 1117 + (n : Int) * 29 + (n : Int) / (zs.length : Int) * 53) (by omega) (by omega)
        go_enter Try.func87, Try.ntmps87
        go_wp2_with fail
        go_quiet (fail)
        go_wp2_with fail
        go_ret
        exact ⟨_, rfl, Int.emod_nonneg _ (by omega), by rw [HM.out]; exact Int.emod_lt_of_pos _ (by omega), HN.out.drewN _, HC.out.drewN _⟩
end Go.Proofs.Ytfdkmngkpihpbaa
namespace Go.Proofs.Ytfdkmngkpihpbaa
open Go.ChangeShapes Go.WideShapes Go.Deep Go.RowKit

section
variable {H : Type} {enc : TypeId × Value → H} {P : Program} {w : World} {base : Nat} {spare : Nat → Bool} {held : Bool}
/-- A slice of structs of one-cell fields that is read: each field's cell, and its own reading. -/
theorem open_struct_rows {t e : TypeId} {fs : Array Field} {fuel : Nat} {v : Value} {x : DataW H × List MemPlace} (ht : P.underlying t = some (.slice e)) (he : P.underlying e = some (.struct fs))
    (hone : oneCellFields P fs = true) (hC : P.cellsOf e = fs.size) (hpos : 0 < fs.size) (h : DataW.trod enc P w base spare held fuel t [v] = some x) :
    ∃ (p : Option Addr) (len cap : Nat), v = .slice p len cap ∧ len ≤ cap ∧ cap ≤ maxLen ∧
      ∀ i, i < len → ∃ (b off : Nat) (n : Nat), p = some ⟨b, off, none⟩ ∧ b < w.heap.size ∧ ∀ (j : Nat) (f : Field), fs[j]? = some f → ∃ (u : Value) (y : DataW H × List MemPlace), w.cell? ⟨b, off + i * fs.size + j, none⟩ = some u ∧ DataW.trod enc P w base spare held n f.type [u] = some y := by
  rcases open_slice ht h with ⟨h0, _⟩ | ⟨a, len, cap, m, n, D, Pl, hcs, hb, hl, hm, hmm, hx, hi⟩
  · simp at h0
    exact ⟨none, 0, 0, h0, Nat.le_refl _, Nat.zero_le _, fun i hi => by omega⟩
  · simp at hcs
    have hlm : len ≤ m := by rw [hmm]; split <;> omega
    have key : ∀ i, i < len → ∃ n : Nat, ∀ (j : Nat) (f : Field), fs[j]? = some f → ∃ (u : Value) (y : DataW H × List MemPlace), w.cell? (a.add (i * fs.size + j)) = some u ∧ DataW.trod enc P w base spare held n f.type [u] = some y := by
      intro i him
      obtain ⟨cs', hc, ht'⟩ := hi i (by omega)
      rw [hC] at hc
      obtain ⟨ys, n', hn', hy, hlen, hyl, hf⟩ := DataW.trod_struct he ht'
      obtain ⟨_, hcl, hat⟩ := World.cells?_some hc
      refine ⟨n', fun j f hj => ?_⟩
      obtain ⟨ho, hk⟩ := hone_of hone j f hj
      have hjl : j < fs.size := (Array.getElem?_eq_some_iff.1 hj).1
      have hcell := hat j hjl
      have hv : cs'[j]? = some (cs'[j]'(by omega)) := List.getElem?_eq_getElem (by omega)
      have h1 := hf j f hj
      rw [ho, hk] at h1
      have hone' : (cs'.drop j).take 1 = [cs'[j]'(by omega)] := by
        rw [List.drop_eq_getElem_cons (by omega)]
        rfl
      rw [hone'] at h1
      have hys : ys[j]? = some (ys[j]'(by omega)) := List.getElem?_eq_getElem (by omega)
      refine ⟨_, _, ?_, h1.trans hys⟩
      rw [← Go.Deep.add_add, hcell, hv]
    refine ⟨some a, len, cap, hcs, hl, hm, fun i him => ?_⟩
    obtain ⟨n0, k0⟩ := key 0 (by omega)
    obtain ⟨u0, y0, c0, _⟩ := k0 0 _ (Array.getElem?_eq_getElem hpos)
    rw [Nat.zero_mul, Nat.add_zero] at c0
    obtain ⟨b, off, spot⟩ := a
    have hs : spot = none := by simpa [Addr.add] using World.cell?_spot c0
    subst hs
    obtain ⟨n, hn⟩ := key i him
    refine ⟨b, off, n, rfl, by simpa [Addr.add] using World.block_lt_of_cell? w _ c0, fun j f hj => ?_⟩
    obtain ⟨u, y, h1, h2⟩ := hn j f hj
    rw [add_plain, ← Nat.add_assoc] at h1
    exact ⟨u, y, h1, h2⟩
end

/-- From a fact at each index to a list. -/
theorem sl_of {α : Type} {sz : Nat} {enc : α → List Value} {w : World} {p : Option Addr} {len cap : Nat} (hl : len ≤ cap) (hm : cap ≤ maxLen) (Ok : α → Prop)
    (h : ∀ i, i < len → ∃ x : α, (∃ b off, p = some ⟨b, off, none⟩ ∧ b < w.heap.size ∧ ∀ j v, (enc x)[j]? = some v → w.cell? ⟨b, off + i * sz + j, none⟩ = some v) ∧ Ok x) :
    ∃ xs : List α, Sl sz enc w.heap.size w (.slice p len cap) xs ∧ ∀ x ∈ xs, Ok x := by
  refine ⟨List.ofFn fun i : Fin len => Classical.choose (h i.1 i.2), ⟨p, len, cap, rfl, by simp, hl, hm, fun i hi => ?_⟩, fun x hx => ?_⟩
  · rw [List.getElem_ofFn]
    exact (Classical.choose_spec (h i (by simpa using hi))).1
  · obtain ⟨i, rfl⟩ := List.mem_ofFn.1 hx
    exact (Classical.choose_spec (h i.1 i.2)).2
end Go.Proofs.Ytfdkmngkpihpbaa
namespace Go.Proofs.Ytfdkmngkpihpbaa
open Go.RowKit

set_option maxHeartbeats 1000000 in
/-- (*l14Rd).of: one of the list's texts. -/
theorem of_any (ss : List ByteArray) (a n b cap : Nat) (w : World) (h : Rd w a n) (hn : n ≤ 1000000) (hpos : 0 < ss.length) (hlen : ss.length ≤ 1000) (hab : b ≠ a) (hc : ∀ i (hi : i < ss.length), w.cell? ⟨b, i, none⟩ = some (.string ss[i])) :
    Calls Try.prog 90 #[.pointer (some ⟨a, 0, none⟩), .slice (some ⟨b, 0, none⟩) ss.length cap] w fun e w' => (∃ i, ∃ hi : i < ss.length, e = .returned (.string ss[i])) ∧ Rd w' a (n + 1) ∧ Chg [a] w w' := by
  go_enter Try.func90, Try.ntmps90
  have HC := Lib.hid hc
  clear hc
  go_wp2_with fail
  refine (pick_any _ a n _ h hn).mono ?_
  rintro e w1 ⟨q, rfl, hq0, hq1, hr, hch⟩
  rw [top_of (by omega)] at hq1
  obtain ⟨i, rfl⟩ := Int.eq_ofNat_of_zero_le hq0
  have hi : i < ss.length := by omega
  have hcell : w1.cell? ⟨b, i, none⟩ = some (.string ss[i]) :=
    (World.cell?_of_block (w := w) (a := ⟨b, i, none⟩) (hch.block b (World.block_lt_of_cell? w _ (HC.out i hi)) (by simpa using hab))).trans (HC.out i hi)
  have HR := Lib.hid hr
  have HCH := Lib.hid hch
  obtain ⟨s, es⟩ : ∃ s, s = ss[i] := ⟨_, rfl⟩
  rw [← es] at hcell
  have ES := Lib.hid es
  clear hr hch es
  go_wp2_with fail
  go_ret
  exact ⟨⟨i, hi, by rw [← ES.out]; rfl⟩, HR.out, HCH.out⟩

set_option maxHeartbeats 1000000 in
/-- l14Open -/
theorem open_any (zs : List Int) (v : Value) (B : Nat) (w : World) (hv : Sl 1 byCells B w v zs) (hB : B ≤ w.heap.size) (hz : ∀ z ∈ zs, 0 ≤ z ∧ z ≤ 255) :
    Calls Try.prog 50 #[v] w fun e w' => e = .returned (.pointer (some ⟨w.heap.size, 0, none⟩)) ∧ Rd w' w.heap.size 0 ∧ w'.heap.size = w.heap.size + 1 ∧ Below w.heap.size w w' := by
  obtain ⟨p, cap, rfl⟩ := hv.form
  have hm := hv.max
  have hm' := hm
  unfold maxLen at hm
  by_cases hl : zs.length ≤ 2000
  · go_enter Try.func50, Try.ntmps50
    go_wp2_with fail
    go_ret
    refine ⟨rfl, ⟨p, cap, zs, heap_alloc_new w _, (hv.below ((Below.refl B w).alloc hB _)).mono hB, hz, hl⟩, by simp, (Below.refl _ _).alloc (Nat.le_refl _) _⟩
  · have hcut : Sl 1 byCells B w (.slice p 2000 cap) (zs.take 2000) := by
      obtain ⟨p', len', cap', h1, h2, h3, h4, h5⟩ := hv
      cases h1
      refine ⟨p, 2000, cap, rfl, by simp; omega, by omega, h4, fun i hi => ?_⟩
      have hi' : i < zs.length := by simp at hi; omega
      obtain ⟨b, off, e1, e2, e3⟩ := h5 i hi'
      exact ⟨b, off, e1, e2, fun j x hx => e3 j x (by rw [List.getElem_take] at hx; exact hx)⟩
    have hl' : 2000 < zs.length := by omega
    have HT := Lib.hid (show (zs.take 2000).length = 2000 by simp; omega)
    go_enter Try.func50, Try.ntmps50
    go_wp2_with fail
    go_ret
    refine ⟨rfl, ⟨p, cap, zs.take 2000, by rw [HT.out]; exact heap_alloc_new w _, ?_, fun z hz' => hz z (List.mem_of_mem_take hz'), by rw [HT.out]; omega⟩, by simp, (Below.refl _ _).alloc (Nat.le_refl _) _⟩
    rw [HT.out]
    exact (hcut.below ((Below.refl B w).alloc hB _)).mono hB

section
open Go.ChangeShapes Go.WideShapes Go.Deep
variable {H : Type} {enc : TypeId × Value → H} {w : World} {base : Nat} {spare : Nat → Bool} {held : Bool}
set_option maxRecDepth 100000 in
/-- A list of bytes that came in. -/
theorem open_bytes {r : Reach} {b0 : Nat} {v : Value} {d : DataW H} {p : List MemPlace} (hv : Value.okWide Try.prog w r b0 22 v) (h : DataW.Trod enc Try.prog w base spare held 22 v d p) :
    ∃ zs : List Int, Sl 1 byCells w.heap.size w v zs ∧ ∀ z ∈ zs, 0 ≤ z ∧ z ≤ 255 := by
  obtain ⟨p', len', cap', rfl⟩ := okWide_slice Try.underlying22 hv
  obtain ⟨fuel, hf⟩ := h
  rcases open_slice1 Try.underlying22 (by kernel_rfl) hf with ⟨h0, _⟩ | ⟨a, len, cap, m, n, V, D, Pl, hcs, hb, hl, hm, hmm, hx, hi⟩
  · simp [Value.cells] at h0
    obtain ⟨rfl, rfl, rfl⟩ := h0
    exact ⟨[], ⟨none, 0, 0, rfl, rfl, Nat.le_refl _, Nat.zero_le _, fun i hi => by simp at hi⟩, by simp⟩
  · simp [Value.cells] at hcs
    obtain ⟨rfl, rfl, rfl⟩ := hcs
    have hlm : len' ≤ m := by rw [hmm]; split <;> omega
    obtain ⟨zs, hz, hok⟩ := sl_of (enc := byCells) (sz := 1) (w := w) (p := some a) (len := len') (cap := cap') hl hm (fun z => 0 ≤ z ∧ z ≤ 255) (fun i him => by
      obtain ⟨h1, h2⟩ := hi i (by omega)
      obtain ⟨z, hz, _, hw⟩ := DataW.trod_int Try.underlying5 h2
      simp at hz
      have h00 := (hi 0 (by omega)).1
      obtain ⟨b, off, spot⟩ := a
      have hs : spot = none := by simpa [Addr.add] using World.cell?_spot h00
      subst hs
      rw [add_plain] at h1
      refine ⟨z, ⟨b, off, rfl, World.block_lt_of_cell? w _ h1, fun j u hu => ?_⟩, ?_⟩
      · match j, hu with
        | 0, hu => simp [byCells] at hu; subst hu; rw [Nat.mul_one, Nat.add_zero, h1, hz]
        | j + 1, hu => simp [byCells] at hu
      · have := hw
        simp [Lit.wf, IntKind.min, IntKind.max, IntKind.signed, IntKind.bits] at this
        omega)
    exact ⟨zs, hz, hok⟩
end
end Go.Proofs.Ytfdkmngkpihpbaa
namespace Go.Proofs.Ytfdkmngkpihpbaa
open Go.RowKit

/-- The cells of flat elements, one behind the other. -/
def flt {α : Type} (enc : α → List Value) (xs : List α) : List Value := xs.flatMap enc
theorem flt_length {α : Type} {enc : α → List Value} {sz : Nat} (h : ∀ x, (enc x).length = sz) : ∀ xs : List α, (flt enc xs).length = xs.length * sz
  | [] => by simp [flt]
  | x :: xs => by
    have := flt_length h xs
    simp only [flt, List.flatMap_cons, List.length_append, List.length_cons] at *
    rw [h, this, Nat.succ_mul]; omega
theorem flt_append {α : Type} (enc : α → List Value) (xs ys : List α) : flt enc (xs ++ ys) = flt enc xs ++ flt enc ys := by simp [flt]
theorem flt_at {α : Type} {enc : α → List Value} {sz : Nat} (h : ∀ x, (enc x).length = sz) : ∀ (xs : List α) (i : Nat) (hi : i < xs.length) (j : Nat) (x : Value), (enc xs[i])[j]? = some x → (flt enc xs)[i * sz + j]? = some x
  | x :: xs, 0, _, j, v, hv => by
    have hj : j < (enc x).length := (List.getElem?_eq_some_iff.1 hv).1
    simp only [flt, List.flatMap_cons, Nat.zero_mul, Nat.zero_add]
    rw [List.getElem?_append_left hj]; exact hv
  | x :: xs, i + 1, hi, j, v, hv => by
    have := flt_at h xs i (by simpa using hi) j v (by simpa using hv)
    simp only [flt, List.flatMap_cons]
    rw [List.getElem?_append_right (by rw [h, Nat.succ_mul]; omega), h]
    rw [show (i + 1) * sz + j - sz = i * sz + j by rw [Nat.succ_mul]; omega]; exact this
/-- A step that is an append, by whatever its run is known to give. -/
theorem step_app_src {P : Program} {w : World} {ops : Array Oper} {o : Oper} {a : Act} {K : Act → World → Prop} {Q : Exit → Act → World → Prop} {E : Prop} (hgd : o.guard = none) (s x : Operand) (t : TypeId)
    (ho : o.op = .call { callee := .builtin .append, args := #[s, x], argTypes := #[t, t] }) (vs vx : Value) (hs : a.eval s = vs) (hx : a.eval x = vx) (R : Value → World → Prop)
    (hr : ∃ v' w', (Builtin.append_ #[t, t] o.type #[vs, vx]).run P w = .ok v' w' ∧ R v' w') (h : ∀ v' w', R v' w' → K (a.put o.dst v') w') :
    if Region.wanted o (yielded ops a.tmps) = true then Oper.wp P o a w K Q else E := by
  have hw : Region.wanted o (yielded ops a.tmps) = true := by simp [Region.wanted, hgd]
  rw [if_pos hw]
  obtain ⟨v', w', hr, hR⟩ := hr
  unfold Oper.wp execOp
  simp only [ho, resolve, invoke, builtin, Sem.run_bind, Sem.run_pure, Result.andThen_ok, List.map_toArray, List.map_cons, List.map_nil, hs, hx, hr]
  exact h v' w' hR

/-- As OwnSl, and the whole block is known. -/
def OwnS {α : Type} (sz : Nat) (enc : α → List Value) (e : TypeId) (w : World) (v : Value) (xs : List α) (F : List Nat) : Prop :=
  ∃ (p : Option Addr) (cap : Nat), v = .slice p xs.length cap ∧ xs.length ≤ cap ∧ cap ≤ maxLen ∧
    ((xs = [] ∧ F = [] ∧ cap = 0) ∨ ∃ b cur, p = some ⟨b, 0, none⟩ ∧ F = [b] ∧ w.heap[b]? = some (.cells cur e (0, 0)) ∧ cur.size = cap * sz ∧ cur.toList.take (xs.length * sz) = flt enc xs)
theorem OwnS.own {α : Type} {sz : Nat} {enc : α → List Value} (hen : ∀ x, (enc x).length = sz) {e : TypeId} {w : World} {v : Value} {xs : List α} {F : List Nat} (h : OwnS sz enc e w v xs F) : OwnSl sz enc w v xs F := by
  obtain ⟨p, cap, rfl, h2, h3, h4⟩ := h
  refine ⟨p, _, cap, rfl, rfl, h2, h3, ?_⟩
  rcases h4 with ⟨rfl, rfl, _⟩ | ⟨b, cur, rfl, rfl, hg, hs, ht⟩
  · exact .inl ⟨rfl, rfl⟩
  · refine .inr ⟨b, 0, rfl, rfl, (Array.getElem?_eq_some_iff.1 hg).1, fun o => by simp [World.frozen?, hg], fun i hi j x hx => ?_⟩
    have e1 := flt_at hen xs i hi j x hx
    have hj : j < sz := by rw [← hen xs[i]]; exact (List.getElem?_eq_some_iff.1 hx).1
    have hle : i * sz + sz ≤ xs.length * sz := by rw [← Nat.succ_mul]; exact Nat.mul_le_mul_right _ hi
    rw [← ht, List.getElem?_take_of_lt (by omega)] at e1
    simp only [World.cell?, hg, Nat.zero_add]
    rw [← e1]; simp
theorem OwnS.chg {α : Type} {sz : Nat} {enc : α → List Value} {e : TypeId} {w w' : World} {v : Value} {xs : List α} {F G : List Nat} (h : OwnS sz enc e w v xs F) (hc : Chg G w w') (hd : ∀ x ∈ F, x ∉ G) : OwnS sz enc e w' v xs F := by
  obtain ⟨p, cap, rfl, h2, h3, h4⟩ := h
  refine ⟨p, cap, rfl, h2, h3, ?_⟩
  rcases h4 with h4 | ⟨b, cur, rfl, rfl, hg, hs, ht⟩
  · exact .inl h4
  · exact .inr ⟨b, cur, rfl, rfl, (hc.block b (Array.getElem?_eq_some_iff.1 hg).1 (hd b (by simp))).trans hg, hs, ht⟩
theorem OwnS.below {α : Type} {sz : Nat} {enc : α → List Value} {e : TypeId} {w w' : World} {v : Value} {xs : List α} {F : List Nat} (h : OwnS sz enc e w v xs F) (hc : Below w.heap.size w w') : OwnS sz enc e w' v xs F :=
  h.chg (Chg.of_below hc []) (by simp)
theorem OwnS.lt {α : Type} {sz : Nat} {enc : α → List Value} {e : TypeId} {w : World} {v : Value} {xs : List α} {F : List Nat} (h : OwnS sz enc e w v xs F) : ∀ x ∈ F, x < w.heap.size := by
  obtain ⟨p, cap, rfl, h2, h3, h4⟩ := h
  rcases h4 with ⟨_, rfl, _⟩ | ⟨b, cur, rfl, rfl, hg, hs, ht⟩
  · simp
  · intro x hx; simp at hx; subst hx; exact (Array.getElem?_eq_some_iff.1 hg).1
/-- One more, behind the others. -/
theorem OwnS.append {α : Type} {sz : Nat} {enc : α → List Value} (hen : ∀ x, (enc x).length = sz) (hone : ∀ (x : α), ∀ u ∈ enc x, u.oneCell' = true) {w : World} {v : Value} {xs : List α} {F : List Nat}
    (t ty e : TypeId) (i : TypeInfo) (z : Value) (bytes : Nat) (ht : Try.prog.underlying t = some (.slice e)) (hi : Try.prog.info? e = some i) (hz : i.zero = some z) (hsz : i.size = sz) (hby : i.bytes = bytes) (hzs : z.cells.size = sz)
    (h : OwnS sz enc e w v xs F) (y : α) (g c : Nat) (hy : ∀ j u, (enc y)[j]? = some u → w.cell? ⟨g, j, none⟩ = some u) (h63 : xs.length < 3000000) (hbytes : (xs.length + 1) * bytes ≤ 140737488355328) :
    ∃ v' w', (Builtin.append_ #[t, t] ty #[v, .slice (some ⟨g, 0, none⟩) 1 c]).run Try.prog w = .ok v' w' ∧ ∃ F', OwnS sz enc e w' v' (xs ++ [y]) F' ∧ (∀ x ∈ F', x ∈ F ∨ w.heap.size ≤ x) ∧ Chg F w w' := by
  have hfl : flt enc (xs ++ [y]) = flt enc xs ++ enc y := by rw [flt_append]; simp [flt]
  have hca : ∀ j u, (enc y)[j]? = some u → w.cell? ((⟨g, 0, none⟩ : Addr).add j) = some u := fun j u hu => by
    have h0 := hy j u hu
    cases j <;> simpa [Addr.add] using h0
  obtain ⟨p, cap, rfl, h2, h3, h4⟩ := h
  have hout : ∀ (old C : Nat) (cs : Array Value), C = grownCap w (xs.length + 1) old e → cs = (flt enc xs).toArray ++ (enc y).toArray ++ Builtin.zeroCells z.cells (C - (xs.length + 1)) →
      ∃ F', OwnS sz enc e (w.drew.alloc (.cells cs e)) (.slice (some ⟨w.heap.size, 0, none⟩) (xs.length + 1) C) (xs ++ [y]) F' ∧ (∀ x ∈ F', x ∈ F ∨ w.heap.size ≤ x) ∧ Chg F w (w.drew.alloc (.cells cs e)) := by
    intro old C cs hC hcs
    have h1 : xs.length + 1 ≤ C := by rw [hC]; exact grownCap_ge w _ _ e
    have h2 : C ≤ maxLen := by rw [hC]; exact grownCap_le_maxLen w _ _ e (by unfold maxLen; omega)
    refine ⟨[w.heap.size], ⟨_, C, by simp, by simpa using h1, h2, .inr ⟨_, cs, rfl, rfl, heap_alloc_new w.drew _, ?_, ?_⟩⟩, by simp, Chg.of_below ((Below.refl _ w).drew.alloc (Nat.le_refl _) _) F⟩
    · rw [hcs, Array.size_append, Array.size_append, List.size_toArray, List.size_toArray, flt_length hen, hen, size_zeroCells, hzs]
      have e1 : C = C - (xs.length + 1) + xs.length + 1 := by omega
      have e2 : C * sz = (C - (xs.length + 1)) * sz + xs.length * sz + sz := by
        conv => lhs; rw [e1, Nat.succ_mul, Nat.add_mul]
      omega
    · rw [hfl, hcs]
      have hl : (flt enc xs ++ enc y).length = (xs ++ [y]).length * sz := by rw [List.length_append, flt_length hen, hen, List.length_append, Nat.add_mul]; simp
      simp only [Array.toList_append, List.append_assoc]
      rw [← List.append_assoc, ← hl]
      exact List.take_left
  have hb1 : (xs.length + 1) * i.bytes ≤ 140737488355328 := by rw [hby]; exact hbytes
  rcases h4 with ⟨rfl, rfl, rfl⟩ | ⟨b, cur, rfl, rfl, hg, hs, htk⟩
  · cases p with
    | none =>
      have hr := run_append_nil (P := Try.prog) (w := w) t ty e i z ht hi hz ⟨g, 0, none⟩ 1 c (enc y) (by rw [hen, hsz, Nat.one_mul]) hca (by omega) (by omega) (by simp at hb1; omega)
      refine ⟨_, _, hr, ?_⟩
      have := hout 0 _ _ rfl rfl
      simpa [flt] using this
    | some G =>
      have hr := run_append_grow (P := Try.prog) (w := w) t ty e i z ht hi hz G 0 0 [] (by simp) (by simp) ⟨g, 0, none⟩ 1 c (enc y) (by rw [hen, hsz, Nat.one_mul]) hca (by omega) (by omega) (growslice_fits (by omega) (by simpa using hb1))
      refine ⟨_, _, hr, ?_⟩
      have := hout 0 _ _ rfl rfl
      simpa [flt] using this
  · have hb : b < w.heap.size := (Array.getElem?_eq_some_iff.1 hg).1
    by_cases hroom : xs.length + 1 ≤ cap
    · have hfit : xs.length * i.size + (enc y).length ≤ cur.size := by rw [hen, hsz, hs, ← Nat.succ_mul]; exact Nat.mul_le_mul_right _ hroom
      have hr := run_append_room (P := Try.prog) (w := w) t ty e i ht hi b xs.length cap cur hg ⟨g, 0, none⟩ 1 c (enc y) (by rw [hen, hsz, Nat.one_mul]) hca (hone y) hroom hfit
      have hl1 : (cur.toList.take (xs.length * sz)).length = xs.length * sz := by rw [htk, flt_length hen]
      refine ⟨_, _, hr, [b], ⟨_, cap, by simp, by simpa using hroom, h3, .inr ⟨b, _, rfl, rfl, setRow_heap w b cur _ e _ hg, ?_, ?_⟩⟩, by simp, ⟨rfl, rfl, rfl, by simp, fun k _ hk => setRow_other w b k _ (fun e => hk (by simp [e]))⟩⟩
      · rw [hsz, hen] at hfit ⊢
        simp only [List.size_toArray, List.length_append, List.length_drop, Array.length_toList, hl1, hen]
        omega
      · rw [hfl, hsz]
        have hl : (flt enc xs ++ enc y).length = (xs ++ [y]).length * sz := by rw [List.length_append, flt_length hen, hen, List.length_append, Nat.add_mul]; simp
        rw [htk, ← hl]
        exact List.take_left
    · have hown : w.ownsRow b e sz (.slice (some ⟨b, 0, none⟩) xs.length cap) xs.length (flt enc xs) := ⟨flt_length hen xs, .inr ⟨b, cap, cur, rfl, Nat.le_refl _, hg, h2, h3, hs, htk⟩⟩
      have holds : ∀ j u, (flt enc xs)[j]? = some u → w.cell? ((⟨b, 0, none⟩ : Addr).add j) = some u := hown.cells (g := b) rfl
      have hr := run_append_grow (P := Try.prog) (w := w) t ty e i z ht hi hz ⟨b, 0, none⟩ xs.length cap (flt enc xs) (by rw [flt_length hen, hsz]) holds ⟨g, 0, none⟩ 1 c (enc y) (by rw [hen, hsz, Nat.one_mul]) hca (by omega) (by omega) (growslice_fits (by omega) hb1)
      refine ⟨_, _, hr, ?_⟩
      have := hout cap _ _ rfl rfl
      simpa using this

end Go.Proofs.Ytfdkmngkpihpbaa
namespace Go.Proofs.Ytfdkmngkpihpbaa
open Go.RowKit

theorem flt_back {α : Type} {enc : α → List Value} {sz : Nat} (h : ∀ x, (enc x).length = sz) : ∀ (xs : List α) (j : Nat) (u : Value), (flt enc xs)[j]? = some u → ∃ (i : Nat) (hi : i < xs.length) (k : Nat), j = i * sz + k ∧ (enc xs[i])[k]? = some u
  | [], j, u, hj => by simp [flt] at hj
  | x :: xs, j, u, hj => by
    simp only [flt, List.flatMap_cons] at hj
    by_cases hlt : j < (enc x).length
    · rw [List.getElem?_append_left hlt] at hj
      exact ⟨0, by simp, j, by simp, hj⟩
    · rw [List.getElem?_append_right (by omega)] at hj
      obtain ⟨i, hi, k, e, hk⟩ := flt_back h xs _ u hj
      rw [h] at e hlt
      exact ⟨i + 1, by simpa using hi, k, by rw [Nat.succ_mul]; omega, by simpa using hk⟩
theorem Sl.fcells {α : Type} {enc : α → List Value} {sz : Nat} (h : ∀ x, (enc x).length = sz) {B : Nat} {w : World} {p : Option Addr} {len cap : Nat} {xs : List α} (hs : Sl sz enc B w (.slice p len cap) xs) :
    ∀ ad, p = some ad → ∀ j u, (flt enc xs)[j]? = some u → w.cell? (ad.add j) = some u := by
  intro ad hp j u hu
  obtain ⟨p', len', cap', h1, h2, h3, h4, h5⟩ := hs
  cases h1
  obtain ⟨i, hi, k, rfl, hk⟩ := flt_back h xs j u hu
  obtain ⟨b, off, e1, e2, e3⟩ := h5 i hi
  rw [e1] at hp
  cases hp
  rw [WideShapes.add_plain, ← Nat.add_assoc]
  exact e3 k u hk
theorem run_append_none {P : Program} (w : World) (t ty e : TypeId) (i : TypeInfo) (ht : P.underlying t = some (.slice e)) (hi : P.info? e = some i) (p q : Option Addr) (n cap c : Nat) (hp : p = none → n = 0 ∧ cap = 0) (hn : n ≤ cap) :
    (Builtin.append_ #[t, t] ty #[.slice p n cap, .slice q 0 c]).run P w = .ok (.slice p n cap) w := by
  have hf : (Builtin.firstCells i.size 0 (.slice q 0 c)).run P w = .ok #[] w := by
    cases q with
    | none => exact run_firstCells_none w i.size 0 0 c
    | some a => exact run_firstCells_some w i.size 0 a 0 c [] (by simp) (by simp)
  cases p with
  | none =>
    obtain ⟨rfl, rfl⟩ := hp rfl
    simp [Builtin.append_, run_underlying ht, sizeOf, typeInfo, hi, Builtin.lenOf, hf]
  | some a => simp [Builtin.append_, run_underlying ht, sizeOf, typeInfo, hi, Builtin.lenOf, hf, hn, storeCells]
/-- An append, by whatever its run is known to give. -/
theorem wpApp {P : Program} {w : World} {ops : Array Oper} {rest : List Oper} {o : Oper} {a : Act} {Q : Exit → Act → World → Prop} (hgd : o.guard = none) (s x : Operand) (t : TypeId)
    (ho : o.op = .call { callee := .builtin .append, args := #[s, x], argTypes := #[t, t] }) (vs vx : Value) (hs : a.eval s = vs) (hx : a.eval x = vx) (R : Value → World → Prop)
    (hr : ∃ v' w', (Builtin.append_ #[t, t] o.type #[vs, vx]).run P w = .ok v' w' ∧ R v' w') (h : ∀ v' w', R v' w' → wpList P ops Q rest (a.put o.dst v') w') : wpList P ops Q (o :: rest) a w := by
  refine wpList_plain hgd fun K hK => ?_
  obtain ⟨v', w', hr, hR⟩ := hr
  unfold Oper.wp execOp
  simp only [ho, resolve, invoke, builtin, Sem.run_bind, Sem.run_pure, Result.andThen_ok, List.map_toArray, List.map_cons, List.map_nil, hs, hx, hr]
  exact hK _ _ (h v' w' hR)
theorem OwnS.form {α : Type} {sz : Nat} {enc : α → List Value} {e : TypeId} {w : World} {v : Value} {xs : List α} {F : List Nat} (h : OwnS sz enc e w v xs F) : ∃ p cap, v = .slice p xs.length cap := by
  obtain ⟨p, cap, rfl, _⟩ := h
  exact ⟨_, _, rfl⟩
theorem OwnS.empty {α : Type} {sz : Nat} {enc : α → List Value} {e : TypeId} {w : World} (p : Option Addr) : OwnS (α := α) sz enc e w (.slice p 0 0) [] [] := ⟨p, 0, rfl, Nat.le_refl _, Nat.zero_le _, .inl ⟨rfl, rfl, rfl⟩⟩

/-- Another row, behind the others. -/
theorem OwnS.appends {α : Type} {sz : Nat} {enc : α → List Value} (hen : ∀ x, (enc x).length = sz) (hone : ∀ (x : α), ∀ u ∈ enc x, u.oneCell' = true) {w : World} {v : Value} {xs : List α} {F : List Nat}
    (t ty e : TypeId) (i : TypeInfo) (z : Value) (bytes : Nat) (ht : Try.prog.underlying t = some (.slice e)) (hi : Try.prog.info? e = some i) (hz : i.zero = some z) (hsz : i.size = sz) (hby : i.bytes = bytes) (hzs : z.cells.size = sz)
    (h : OwnS sz enc e w v xs F) (ys : List α) (u : Value) (B : Nat) (hu : Sl sz enc B w u ys) (h63 : xs.length + ys.length ≤ 3000000) (hbytes : (xs.length + ys.length) * bytes ≤ 140737488355328) :
    ∃ v' w', (Builtin.append_ #[t, t] ty #[v, u]).run Try.prog w = .ok v' w' ∧ ∃ F', OwnS sz enc e w' v' (xs ++ ys) F' ∧ (∀ x ∈ F', x ∈ F ∨ w.heap.size ≤ x) ∧ Chg F w w' := by
  have hfl : flt enc (xs ++ ys) = flt enc xs ++ flt enc ys := flt_append _ _ _
  have hly : (flt enc ys).length = ys.length * sz := flt_length hen ys
  obtain ⟨q, c, rfl⟩ := hu.form
  by_cases hys : ys = []
  · subst hys
    have h0 := h
    obtain ⟨p, cap, rfl, h2, h3, h4⟩ := h
    refine ⟨_, _, run_append_none w t ty e i ht hi p q xs.length cap c (fun e => ?_) h2, F, by simpa using h0, fun x hx => .inl hx, Chg.refl _ _⟩
    rcases h4 with ⟨rfl, _, rfl⟩ | ⟨b, cur, e2, _⟩
    · exact ⟨rfl, rfl⟩
    · rw [e2] at e; cases e
  have hpos : 0 < ys.length := List.length_pos_iff.2 hys
  have hone' : ∀ u ∈ flt enc ys, u.oneCell' = true := fun u hu => by
    obtain ⟨x, _, hx⟩ := List.mem_flatMap.1 hu
    exact hone x u hx
  obtain ⟨ad, rfl⟩ : ∃ ad, q = some ad := by
    obtain ⟨_, _, _, e1, _, _, _, e5⟩ := hu
    cases e1
    obtain ⟨b, off, e1, _⟩ := e5 0 hpos
    exact ⟨_, e1⟩
  have hca := Sl.fcells hen hu ad rfl
  obtain ⟨p, cap, rfl, h2, h3, h4⟩ := h
  have hout : ∀ (old C : Nat) (cs : Array Value), C = grownCap w (xs.length + ys.length) old e → cs = (flt enc xs).toArray ++ (flt enc ys).toArray ++ Builtin.zeroCells z.cells (C - (xs.length + ys.length)) →
      ∃ F', OwnS sz enc e (w.drew.alloc (.cells cs e)) (.slice (some ⟨w.heap.size, 0, none⟩) (xs.length + ys.length) C) (xs ++ ys) F' ∧ (∀ x ∈ F', x ∈ F ∨ w.heap.size ≤ x) ∧ Chg F w (w.drew.alloc (.cells cs e)) := by
    intro old C cs hC hcs
    have h1 : xs.length + ys.length ≤ C := by rw [hC]; exact grownCap_ge w _ _ e
    have h2 : C ≤ maxLen := by rw [hC]; exact grownCap_le_maxLen w _ _ e (by unfold maxLen; omega)
    refine ⟨[w.heap.size], ⟨_, C, by simp, by simpa using h1, h2, .inr ⟨_, cs, rfl, rfl, heap_alloc_new w.drew _, ?_, ?_⟩⟩, by simp, Chg.of_below ((Below.refl _ w).drew.alloc (Nat.le_refl _) _) F⟩
    · rw [hcs, Array.size_append, Array.size_append, List.size_toArray, List.size_toArray, flt_length hen, hly, size_zeroCells, hzs]
      have e1 : C = C - (xs.length + ys.length) + xs.length + ys.length := by omega
      have e2 : C * sz = (C - (xs.length + ys.length)) * sz + xs.length * sz + ys.length * sz := by
        conv => lhs; rw [e1, Nat.add_mul, Nat.add_mul]
      omega
    · rw [hfl, hcs]
      have hl : (flt enc xs ++ flt enc ys).length = (xs ++ ys).length * sz := by rw [List.length_append, flt_length hen, hly, List.length_append, Nat.add_mul]
      simp only [Array.toList_append, List.append_assoc]
      rw [← List.append_assoc, ← hl]
      exact List.take_left
  have hb1 : (xs.length + ys.length) * i.bytes ≤ 140737488355328 := by rw [hby]; exact hbytes
  rcases h4 with ⟨rfl, rfl, rfl⟩ | ⟨b, cur, rfl, rfl, hg, hs, htk⟩
  · cases p with
    | none =>
      have hr := run_append_nil (P := Try.prog) (w := w) t ty e i z ht hi hz ad ys.length c (flt enc ys) (by rw [hly, hsz]) hca hpos (by omega) (by simp at hb1; omega)
      refine ⟨_, _, hr, ?_⟩
      have := hout 0 _ _ rfl rfl
      simpa [flt] using this
    | some G =>
      have hr := run_append_grow (P := Try.prog) (w := w) t ty e i z ht hi hz G 0 0 [] (by simp) (by simp) ad ys.length c (flt enc ys) (by rw [hly, hsz]) hca (by omega) (by omega) (growslice_fits (by omega) (by simpa using hb1))
      refine ⟨_, _, hr, ?_⟩
      have := hout 0 _ _ rfl rfl
      simpa [flt] using this
  · have hb : b < w.heap.size := (Array.getElem?_eq_some_iff.1 hg).1
    by_cases hroom : xs.length + ys.length ≤ cap
    · have hfit : xs.length * i.size + (flt enc ys).length ≤ cur.size := by rw [hly, hsz, hs, ← Nat.add_mul]; exact Nat.mul_le_mul_right _ hroom
      have hr := run_append_room (P := Try.prog) (w := w) t ty e i ht hi b xs.length cap cur hg ad ys.length c (flt enc ys) (by rw [hly, hsz]) hca hone' hroom hfit
      have hl1 : (cur.toList.take (xs.length * sz)).length = xs.length * sz := by rw [htk, flt_length hen]
      refine ⟨_, _, hr, [b], ⟨_, cap, by simp, by simpa using hroom, h3, .inr ⟨b, _, rfl, rfl, setRow_heap w b cur _ e _ hg, ?_, ?_⟩⟩, by simp, ⟨rfl, rfl, rfl, by simp, fun k _ hk => setRow_other w b k _ (fun e => hk (by simp [e]))⟩⟩
      · rw [hsz, hly] at hfit ⊢
        simp only [List.size_toArray, List.length_append, List.length_drop, Array.length_toList, hl1, hly]
        omega
      · rw [hfl, hsz]
        have hl : (flt enc xs ++ flt enc ys).length = (xs ++ ys).length * sz := by rw [List.length_append, flt_length hen, hly, List.length_append, Nat.add_mul]
        rw [htk, ← hl]
        exact List.take_left
    · have hown : w.ownsRow b e sz (.slice (some ⟨b, 0, none⟩) xs.length cap) xs.length (flt enc xs) := ⟨flt_length hen xs, .inr ⟨b, cap, cur, rfl, Nat.le_refl _, hg, h2, h3, hs, htk⟩⟩
      have holds : ∀ j u, (flt enc xs)[j]? = some u → w.cell? ((⟨b, 0, none⟩ : Addr).add j) = some u := hown.cells (g := b) rfl
      have hr := run_append_grow (P := Try.prog) (w := w) t ty e i z ht hi hz ⟨b, 0, none⟩ xs.length cap (flt enc xs) (by rw [flt_length hen, hsz]) holds ad ys.length c (flt enc ys) (by rw [hly, hsz]) hca (by omega) (by omega) (growslice_fits (by omega) hb1)
      refine ⟨_, _, hr, ?_⟩
      have := hout cap _ _ rfl rfl
      simpa using this
end Go.Proofs.Ytfdkmngkpihpbaa
namespace Go.Proofs.Ytfdkmngkpihpbaa
open Go

section
variable {P : Program} {ops : Array Oper} {Q : Exit → Act → World → Prop} {md : Region.Mode} {S : World → Prop} {last : Nat}

/-- Whatever order is picked from here on; S holds behind each operation that is carried out, but for the last one. -/
def wpAnyE (P : Program) (md : Region.Mode) (ops : Array Oper) (Q : Exit → Act → World → Prop) (S : World → Prop) (last : Nat) : Nat → Array Bool → Act → World → Prop
  | 0, listed, a, w => Region.ready md ops listed = [] ∧ Q .normal a w
  | n + 1, listed, a, w => (Region.ready md ops listed = [] → Q .normal a w) ∧
      ∀ i ∈ Region.ready md ops listed, wpOp P ops Q i (fun a' w' => (i = last ∨ S w') ∧ wpAnyE P md ops Q S last n (listed.setIfInBounds i true) a' w') a w
theorem wpAnyE.any : ∀ (n : Nat) (listed : Array Bool) (a : Act) (w : World), wpAnyE P md ops Q S last n listed a w → wpAny P md ops Q n listed a w
  | 0, _, _, _, h => h
  | n + 1, _, _, _, h => ⟨h.1, fun i hi => wpOp_mono (fun _ _ h' => wpAnyE.any n _ _ _ h'.2) (h.2 i hi)⟩
theorem wp_region_E {id : Nat} {a : Act} {w : World} (hm : P.follows .mixedOrders = true) (hS : S w.drew)
    (h : S w.drew → wpAnyE P .any ops Q S last ops.size (Array.replicate ops.size false) a w.drew) : (Code.region id ops true).wp P Q a w :=
  wp_region_any hm (wpAnyE.any _ _ _ _ (h hS))

/-- Whatever has come up waited for nothing that has not. -/
def Below' (md : Region.Mode) (ops : Array Oper) (listed : Array Bool) : Prop :=
  ∀ y o, ops[y]? = some o → listed.getD y false = true → ∀ e ∈ o.after, Region.binds md e = true → listed.getD e.on false = true
def belowB (md : Region.Mode) (ops : Array Oper) (listed : Array Bool) : Bool :=
  (List.range ops.size).all fun y => !listed.getD y false || (match ops[y]? with | some o => o.after.all (fun e => !Region.binds md e || listed.getD e.on false) | none => true)
theorem belowB_iff {listed : Array Bool} (h : belowB md ops listed = true) : Below' md ops listed := by
  intro y o ho hy e he hb
  unfold belowB at h
  rw [List.all_eq_true] at h
  have h1 := h y (List.mem_range.2 (Array.getElem?_eq_some_iff.1 ho).1)
  rw [hy, ho] at h1
  simp only [Bool.not_true, Bool.false_or] at h1
  have h2 := Array.all_eq_true_iff_forall_mem.1 h1 e he
  rw [hb] at h2
  simpa using h2
theorem Below'.step {listed : Array Bool} {j : Nat} (h : Below' md ops listed) (hj : j ∈ Region.ready md ops listed) : Below' md ops (listed.setIfInBounds j true) := by
  intro y o ho hy e he hb
  apply getD_set_true
  by_cases e1 : j = y
  · subst e1
    obtain ⟨_, o', ho', hall⟩ := mem_ready.1 hj
    rw [ho] at ho'
    cases ho'
    exact hall e he hb
  · rw [getD_set_ne false e1] at hy
    exact h y o ho hy e he hb
/-- y waits for x. -/
def dep (md : Region.Mode) (ops : Array Oper) (x y : Nat) : Bool := match ops[y]? with | some o => o.after.any (fun e => Region.binds md e && e.on == x) | none => false
theorem dep_spec {x y : Nat} (h : dep md ops x y = true) : ∃ o, ops[y]? = some o ∧ ∃ e ∈ o.after, Region.binds md e = true ∧ e.on = x := by
  unfold dep at h
  cases ho : ops[y]? with
  | none => rw [ho] at h; cases h
  | some o =>
    rw [ho] at h
    obtain ⟨e, he, hb⟩ := Array.any_eq_true'.1 h
    simp only [Bool.and_eq_true, beq_iff_eq] at hb
    exact ⟨o, rfl, e, he, hb.1, hb.2⟩
/-- l waits for i, by way of ks. -/
def waits (md : Region.Mode) (ops : Array Oper) : Nat → List Nat → Nat → Bool
  | i, [], l => dep md ops i l
  | i, k :: ks, l => dep md ops i k && waits md ops k ks l
theorem waits_ready : ∀ {ks : List Nat} {i l : Nat} {listed : Array Bool}, waits md ops i ks l = true → Below' md ops listed → l ∈ Region.ready md ops listed → listed.getD i false = true
  | [], i, l, listed, h, _, hl => by
    obtain ⟨o, ho, e, he, hb, rfl⟩ := dep_spec h
    obtain ⟨_, o', ho', hall⟩ := mem_ready.1 hl
    rw [ho] at ho'
    cases ho'
    exact hall e he hb
  | k :: ks, i, l, listed, h, hs, hl => by
    unfold waits at h
    rw [Bool.and_eq_true] at h
    have hk := waits_ready h.2 hs hl
    obtain ⟨o, ho, e, he, hb, rfl⟩ := dep_spec h.1
    exact hs k o ho hk e he hb
theorem ready_not {i : Nat} {listed : Array Bool} (h : i ∈ Region.ready md ops listed) : listed.getD i false = false := by
  have h0 := (mem_ready.1 h).1
  rcases Nat.lt_or_ge i listed.size with h' | h'
  · simp [h'] at h0 ⊢; exact h0
  · simp [Array.getElem?_eq_none h'] at h0

theorem wpAnyE_first {i : Nat} {oi : Oper} {v : Value} {ks : List Nat} (hi : ops[i]? = some oi) (hsel : ∀ (j : Nat) (o : Oper) cs b, ops[j]? = some o → o.op ≠ .select cs b)
    (hQ : ∀ c a w, Q (.panic c) (a.put oi.dst v) w → Q (.panic c) a w) (hk : waits md ops i ks last = true) :
    ∀ (n : Nat) (listed : Array Bool) (a : Act) (w : World), Below' md ops listed →
      (∀ j oj, ops[j]? = some oj → j ≠ i → listed.getD j true = false → (∀ e ∈ oj.after, Region.binds md e = true → e.on ≠ i) → oi.apart ops oj = true) →
      i ∈ Region.ready md ops listed → YieldsIf P ops S oi v a → S w →
      wpAnyE P md ops Q S last n (listed.setIfInBounds i true) (a.put oi.dst v) w → wpAnyE P md ops Q S last (n + 1) listed a w := by
  intro n
  induction n with
  | zero =>
    intro listed a w _ _ hr hy hS H
    constructor
    · intro h; rw [h] at hr; cases hr
    · intro j hj
      by_cases e : j = i
      · subst e; exact hy.wpOp hi hS ⟨.inr hS, H⟩
      · have hm := ready_mono hj e
        rw [H.1] at hm; cases hm
  | succ n ih =>
    intro listed a w hb hfree hr hy hS H
    constructor
    · intro h; rw [h] at hr; cases hr
    · intro j hj
      by_cases e : j = i
      · subst e; exact hy.wpOp hi hS ⟨.inr hS, H⟩
      · obtain ⟨hun, oj, hoj, hall⟩ := mem_ready.1 hj
        have hno : ∀ e ∈ oj.after, Region.binds md e = true → e.on ≠ i := fun d hd hbd heq => by
          have h1 := hall d hd hbd
          rw [heq, ready_not hr] at h1
          cases h1
        have hl : ¬ j = last := fun e2 => by
          have h1 := waits_ready hk hb (e2 ▸ hj)
          rw [ready_not hr] at h1
          cases h1
        have h2 := wpOp_putIf hoj (hfree j oj hoj e hun hno) (fun cs b => hsel i oi cs b hi) (fun cs b => hsel j oj cs b hoj) hQ hy (H.2 j (ready_mono hj e))
        refine wpOp_mono (fun a' w' h3 => ?_) h2
        have hS' : S w' := h3.2.1.resolve_left hl
        refine ⟨.inr hS', ih _ a' w' (hb.step hj) (fun k ok hk' hki hkun hkno => hfree k ok hk' hki ?_ hkno) (ready_mono hr (fun x => e x.symm)) h3.1 hS' ?_⟩
        · by_cases e3 : j = k
          · subst e3; exact hun
          · rw [getD_set_ne true e3] at hkun; exact hkun
        · rw [Array.setIfInBounds_comm _ _ e]; exact h3.2.2

/-- Take number i first. -/
theorem takeE {i : Nat} {oi : Oper} {v : Value} {n : Nat} {listed : Array Bool} {a : Act} {w : World} (ks : List Nat) (hi : ops.toList[i]? = some oi)
    (hs : Region.noSelect ops = true) (hf : (Region.free md ops listed i && (Region.ready md ops listed).contains i && waits md ops i ks last && belowB md ops listed) = true)
    (hQ : ∀ c a w, Q (.panic c) (a.put oi.dst v) w → Q (.panic c) a w) (hy : YieldsIf P ops S oi v a) (hS : S w)
    (h : wpAnyE P md ops Q S last n (listed.setIfInBounds i true) (a.put oi.dst v) w) : wpAnyE P md ops Q S last (n + 1) listed a w := by
  simp only [Bool.and_eq_true] at hf
  obtain ⟨⟨⟨h1, h2⟩, h3⟩, h4⟩ := hf
  exact wpAnyE_first (by simpa using hi) (Region.noSelect_spec hs) hQ h3 n listed a w (belowB_iff h4) (Region.free_spec (by simpa using hi) h1) (by simpa using h2) hy hS h
/-- Those that may come up next, each by itself. -/
def AllE' (P : Program) (md : Region.Mode) (ops : Array Oper) (Q : Exit → Act → World → Prop) (S : World → Prop) (last n : Nat) (listed : Array Bool) (a : Act) (w : World) (rs : List Nat) : Prop :=
  ∀ i ∈ rs, wpOp P ops Q i (fun a' w' => (i = last ∨ S w') ∧ wpAnyE P md ops Q S last n (listed.setIfInBounds i true) a' w') a w
theorem upE {n : Nat} {listed : Array Bool} {a : Act} {w : World} {rs : List Nat} (hr : Region.ready md ops listed = rs) (hne : rs ≠ []) (h : AllE' P md ops Q S last n listed a w rs) : wpAnyE P md ops Q S last (n + 1) listed a w :=
  ⟨fun h0 => absurd (hr ▸ h0) hne, hr ▸ h⟩
theorem AllE'.nil {n : Nat} {listed : Array Bool} {a : Act} {w : World} : AllE' P md ops Q S last n listed a w [] := fun _ h => by cases h
theorem AllE'.cons {i : Nat} {oi : Oper} {n : Nat} {listed : Array Bool} {a : Act} {w : World} {rs : List Nat} (hi : ops.toList[i]? = some oi) (hw : Region.wanted oi (yielded ops a.tmps) = true)
    (h : ∀ K' : Act → World → Prop, Shut (∀ a w, S w → (S w → wpAnyE P md ops Q S last n (listed.setIfInBounds i true) a w) → K' a w) → Oper.wp P oi a w K' Q)
    (hs : AllE' P md ops Q S last n listed a w rs) : AllE' P md ops Q S last n listed a w (i :: rs) := fun j hj => by
  rcases List.mem_cons.1 hj with rfl | hj
  · exact wpOp_step (by simpa using hi) (fun K' hK => by rw [if_pos hw]; exact h K' (fun a w hS hW => hK a w ⟨.inr hS, hW hS⟩))
  · exact hs j hj
/-- The one that may come up. -/
theorem oneE {i : Nat} {oi : Oper} {n : Nat} {listed : Array Bool} {a : Act} {w : World} (hi : ops.toList[i]? = some oi) (hr : Region.ready md ops listed = [i]) (hw : Region.wanted oi (yielded ops a.tmps) = true)
    (h : ∀ K' : Act → World → Prop, Shut (∀ a w, S w → (S w → wpAnyE P md ops Q S last n (listed.setIfInBounds i true) a w) → K' a w) → Oper.wp P oi a w K' Q) : wpAnyE P md ops Q S last (n + 1) listed a w :=
  upE hr (by simp) (AllE'.cons hi hw h AllE'.nil)
/-- The last one. -/
theorem lastE {oi : Oper} {n : Nat} {listed : Array Bool} {a : Act} {w : World} (hi : ops.toList[last]? = some oi) (hr : Region.ready md ops listed = [last]) (hw : Region.wanted oi (yielded ops a.tmps) = true)
    (h : ∀ K' : Act → World → Prop, Shut (∀ a w, wpAnyE P md ops Q S last n (listed.setIfInBounds last true) a w → K' a w) → Oper.wp P oi a w K' Q) : wpAnyE P md ops Q S last (n + 1) listed a w :=
  upE hr (by simp) fun j hj => by
    rw [List.mem_singleton] at hj
    subst hj
    exact wpOp_step (by simpa using hi) (fun K' hK => by rw [if_pos hw]; exact h K' (fun a w hW => hK a w ⟨.inl rfl, hW⟩))
theorem doneE {listed : Array Bool} {a : Act} {w : World} (hr : Region.ready md ops listed = []) (h : Q .normal a w) : ∀ n, wpAnyE P md ops Q S last n listed a w
  | 0 => ⟨hr, h⟩
  | _ + 1 => ⟨fun _ => h, by rw [hr]; simp⟩
end
end Go.Proofs.Ytfdkmngkpihpbaa
namespace Go.Proofs.Ytfdkmngkpihpbaa
open Go.RowKit

theorem Chg.alloc {F : List Nat} {a w : World} (h : Chg F a w) (o : Obj) : Chg F a (w.alloc o) := h.then_below ((Below.refl _ _).alloc (Nat.le_refl _) o)
theorem Chg.drew {F : List Nat} {a w : World} (h : Chg F a w) : Chg F a w.drew := ⟨h.os, h.tape, h.output, h.size, h.block⟩
/-- Blocks that are new since a do not count. -/
theorem Chg.past {F G : List Nat} {a b c : World} (h : Chg G a b) (hc : Chg F b c) (hF : ∀ x ∈ F, x ∈ G ∨ a.heap.size ≤ x) : Chg G a c :=
  ⟨hc.os.trans h.os, hc.tape.trans h.tape, hc.output.trans h.output, Nat.le_trans h.size hc.size, fun k hk hn => by
    have hnF : k ∉ F := fun hm => by
      rcases hF k hm with h1 | h1
      · exact hn h1
      · omega
    exact (hc.block k (Nat.lt_of_lt_of_le hk h.size) hnF).trans (h.block k hk hn)⟩
theorem Chg.cellOf {F : List Nat} {w w' : World} (hc : Chg F w w') {b o : Nat} {x : Value} (hb : b ∉ F) (h : w.cell? ⟨b, o, none⟩ = some x) : w'.cell? ⟨b, o, none⟩ = some x :=
  (World.cell?_of_block (w := w) (a := ⟨b, o, none⟩) (hc.block b (World.block_lt_of_cell? w _ h) hb)).trans h
theorem Chg.frozenOf {F : List Nat} {w w' : World} (hc : Chg F w w') {b o : Nat} (hb : b ∉ F) (hl : b < w.heap.size) (h : w.frozen? ⟨b, o, none⟩ = false) : w'.frozen? ⟨b, o, none⟩ = false :=
  (World.frozen?_of_block (w := w) (a := ⟨b, o, none⟩) (hc.block b hl hb)).trans h

/-- A drawing source of which at most N bytes have been asked for. -/
def Dr (w : World) (a N : Nat) : Prop := ∃ n, n ≤ N ∧ Rd w a n
theorem Dr.lt {w : World} {a N : Nat} (h : Dr w a N) : a < w.heap.size := h.elim fun _ h => h.2.lt
theorem Dr.mono {w : World} {a N M : Nat} (h : Dr w a N) (hl : N ≤ M) : Dr w a M := h.elim fun n h => ⟨n, Nat.le_trans h.1 hl, h.2⟩
theorem Dr.keep {w w' : World} {a N : Nat} (h : Dr w a N) (hb : ∀ k, k ≤ a → w'.heap[k]? = w.heap[k]?) : Dr w' a N := h.elim fun n h => ⟨n, h.1, h.2.keep hb⟩
theorem Dr.chg {F : List Nat} {w w' : World} {a N : Nat} (h : Dr w a N) (hc : Chg F w w') (hF : ∀ x ∈ F, a < x) : Dr w' a N :=
  h.keep fun k hk => hc.block k (by have := h.lt; omega) (fun hm => by have := hF k hm; omega)
theorem Dr.alloc {w : World} {a N : Nat} (h : Dr w a N) (o : Obj) : Dr (w.alloc o) a N := h.chg ((Chg.refl [] w).alloc o) (by simp)
theorem Dr.drew {w : World} {a N : Nat} (h : Dr w a N) : Dr w.drew a N := h.keep fun _ _ => rfl
theorem Dr.set {w : World} {a N b o : Nat} {x : Value} (h : Dr w a N) (hb : a < b) : Dr (w.setCell ⟨b, o, none⟩ x) a N := h.chg ((Chg.refl [b] w).setCell (p := ⟨b, o, none⟩) (by simp) x) (by simpa using hb)
theorem Dr.below {w w' : World} {a N : Nat} (h : Dr w a N) (hb : Below w.heap.size w w') : Dr w' a N := h.chg (Chg.of_below hb []) (by simp)

/-- n cells of which P holds, from a block's beginning. -/
def Cs (P : Value → Prop) (w : World) (b n : Nat) : Prop := b < w.heap.size ∧ ∀ i, i < n → ∃ v, P v ∧ w.cell? ⟨b, i, none⟩ = some v
theorem Cs.chg {P : Value → Prop} {F : List Nat} {w w' : World} {b n : Nat} (h : Cs P w b n) (hc : Chg F w w') (hb : b ∉ F) : Cs P w' b n :=
  ⟨Nat.lt_of_lt_of_le h.1 hc.size, fun i hi => by obtain ⟨v, h1, h2⟩ := h.2 i hi; exact ⟨v, h1, hc.cellOf hb h2⟩⟩
theorem Cs.alloc {P : Value → Prop} {w : World} {b n : Nat} (h : Cs P w b n) (o : Obj) : Cs P (w.alloc o) b n := h.chg ((Chg.refl [] w).alloc o) (by simp)
theorem Cs.fresh {P : Value → Prop} (p : Value → Bool) (hp : ∀ v, p v = true → P v) (w : World) (cs : Array Value) (T : TypeId) {b n : Nat} (hb : b = w.heap.size) (hn : n = cs.size) (h : cs.all p = true) : Cs P (w.alloc (.cells cs T)) b n := by
  subst hb hn
  refine ⟨by simp, fun i hi => ⟨cs[i], hp _ (Array.all_eq_true.1 h i hi), ?_⟩⟩
  exact (World.cell?_alloc_at cs T _ i rfl).trans (Array.getElem?_eq_getElem hi)
def strP (v : Value) : Prop := ∃ s : ByteArray, v = .string s ∧ s.size ≤ 100
def strB (v : Value) : Bool := match v with | .string s => decide (s.size ≤ 100) | _ => false
theorem strB_spec (v : Value) (h : strB v = true) : strP v := by
  cases v <;> first | (simp [strB] at h; exact ⟨_, rfl, h⟩) | (simp [strB] at h)
def intP (v : Value) : Prop := ∃ z : Int, v = .int .i64 z ∧ -1000 ≤ z ∧ z ≤ 1000
def intB (v : Value) : Bool := match v with | .int .i64 z => decide (-1000 ≤ z) && decide (z ≤ 1000) | _ => false
theorem intB_spec (v : Value) (h : intB v = true) : intP v := by
  unfold intB at h
  split at h
  · simp at h; exact ⟨_, rfl, h.1, h.2⟩
  · cases h

theorem pick_dr (m : Int) (a N : Nat) (w : World) (h : Dr w a N) (hN : N ≤ 999000) :
    Calls Try.prog 87 #[.pointer (some ⟨a, 0, none⟩), .int .i64 m] w fun e w' => ∃ q : Int, e = .returned (.int .i64 q) ∧ 0 ≤ q ∧ q < top m ∧ Dr w' a (N + 1) ∧ Chg [a] w w' := by
  obtain ⟨n, hn, hr⟩ := h
  refine (pick_any m a n w hr (by omega)).mono ?_
  rintro e w' ⟨q, h1, h2, h3, h4, h5⟩
  exact ⟨q, h1, h2, h3, ⟨n + 1, by omega, h4⟩, h5⟩
/-- As pick_dr; the number is a natural one. -/
theorem pick_nat (m : Nat) (a N : Nat) (w : World) (h : Dr w a N) (hN : N ≤ 999000) (hm : 0 < m) :
    Calls Try.prog 87 #[.pointer (some ⟨a, 0, none⟩), .int .i64 m] w fun e w' => ∃ q : Nat, e = .returned (.int .i64 q) ∧ q < m ∧ Dr w' a (N + 1) ∧ Chg [a] w w' := by
  refine (pick_dr m a N w h hN).mono ?_
  rintro e w' ⟨q, h1, h2, h3, h4, h5⟩
  rw [top_of (by omega)] at h3
  obtain ⟨q, rfl⟩ := Int.eq_ofNat_of_zero_le h2
  exact ⟨q, h1, by omega, h4, h5⟩

set_option maxHeartbeats 1000000 in
theorem of_dr (a N b n cap : Nat) (w : World) (h : Dr w a N) (hN : N ≤ 999000) (hc : Cs strP w b n) (hn : 0 < n) (hab : b ≠ a) :
    Calls Try.prog 90 #[.pointer (some ⟨a, 0, none⟩), .slice (some ⟨b, 0, none⟩) n cap] w fun e w' => ∃ s : ByteArray, e = .returned (.string s) ∧ s.size ≤ 100 ∧ Dr w' a (N + 1) ∧ Chg [a] w w' := by
  go_enter Try.func90, Try.ntmps90
  have HC := Lib.hid hc
  clear hc
  go_wp2_with fail
  refine (pick_nat n a N _ h hN hn).mono ?_
  rintro e w1 ⟨q, rfl, hq1, hr, hch⟩
  obtain ⟨v, ⟨s, rfl, hs⟩, hcell⟩ := (HC.out.chg hch (by simpa using hab)).2 q hq1
  have HR := Lib.hid hr
  have HCH := Lib.hid hch
  have HS := Lib.hid hs
  clear hr hch hs
  go_wp2_with fail
  go_ret
  exact ⟨s, rfl, HS.out, HR.out, HCH.out⟩

set_option maxHeartbeats 1000000 in
theorem num_dr (a N b n cap : Nat) (w : World) (h : Dr w a N) (hN : N ≤ 999000) (hc : Cs intP w b n) (hn : 0 < n) (hab : b ≠ a) :
    Calls Try.prog 51 #[.pointer (some ⟨a, 0, none⟩), .slice (some ⟨b, 0, none⟩) n cap] w fun e w' => ∃ z : Int, e = .returned (.int .i64 z) ∧ -1000 ≤ z ∧ z ≤ 1000 ∧ Dr w' a (N + 1) ∧ Chg [a] w w' := by
  go_enter Try.func51, Try.ntmps51
  have HC := Lib.hid hc
  clear hc
  go_wp2_with fail
  refine (pick_nat n a N _ h hN hn).mono ?_
  rintro e w1 ⟨q, rfl, hq1, hr, hch⟩
  obtain ⟨v, ⟨z, rfl, hz⟩, hcell⟩ := (HC.out.chg hch (by simpa using hab)).2 q hq1
  have HR := Lib.hid hr
  have HCH := Lib.hid hch
  have HZ := Lib.hid hz
  clear hr hch hz
  go_wp2_with fail
  go_ret
  exact ⟨z, rfl, HZ.out.1, HZ.out.2, HR.out, HCH.out⟩

/-- An append in a region, by whatever its run is known to give. -/
theorem wp_app {P : Program} {w : World} {o : Oper} {a : Act} {K : Act → World → Prop} {Q : Exit → Act → World → Prop} (s x : Operand) (t : TypeId)
    (ho : o.op = .call { callee := .builtin .append, args := #[s, x], argTypes := #[t, t] }) (vs vx : Value) (hs : a.eval s = vs) (hx : a.eval x = vx) (R : Value → World → Prop)
    (hr : ∃ v' w', (Builtin.append_ #[t, t] o.type #[vs, vx]).run P w = .ok v' w' ∧ R v' w') (h : ∀ v' w', R v' w' → K (a.put o.dst v') w') : Oper.wp P o a w K Q := by
  obtain ⟨v', w', hr, hR⟩ := hr
  unfold Oper.wp execOp
  simp only [ho, resolve, invoke, builtin, Sem.run_bind, Sem.run_pure, Result.andThen_ok, List.map_toArray, List.map_cons, List.map_nil, hs, hx, hr]
  exact h v' w' hR

/-- A list of constants has been made: the world by a letter. -/
theorem made {P : Value → Prop} {p : Value → Bool} (hp : ∀ v, p v = true → P v) {K : Act → World → Prop} {A : Act} {E : World} {cs : Array Value} {T : TypeId} (n : Nat) (hn : n = cs.size) (h : cs.all p = true)
    (hk : ∀ w1, Chg [] E w1 → E.heap.size < w1.heap.size → Cs P w1 E.heap.size n → K A w1) : K A (E.alloc (.cells cs T)) :=
  hk _ ((Chg.refl _ _).alloc _) (by simp) (Cs.fresh p hp E cs T rfl hn h)

/-- A variable of two slices in block b, both in memory of the call's own, from block lo on. -/
def Two {α β : Type} (sz1 : Nat) (enc1 : α → List Value) (T1 : TypeId) (xs : List α) (sz2 : Nat) (enc2 : β → List Value) (T2 : TypeId) (ys : List β) (b lo : Nat) (v1 v2 : Value) (w : World) : Prop :=
  (b < w.heap.size ∧ lo ≤ b) ∧ (w.cell? ⟨b, 0, none⟩ = some v1 ∧ w.cell? ⟨b, 1, none⟩ = some v2) ∧ (w.frozen? ⟨b, 0, none⟩ = false ∧ w.frozen? ⟨b, 1, none⟩ = false) ∧
    ∃ F1 F2, OwnS sz1 enc1 T1 w v1 xs F1 ∧ OwnS sz2 enc2 T2 w v2 ys F2 ∧ (∀ x ∈ F1, lo ≤ x ∧ x ≠ b) ∧ (∀ x ∈ F2, lo ≤ x ∧ x ≠ b) ∧ ∀ x ∈ F1, x ∉ F2
section
variable {α β : Type} {sz1 : Nat} {enc1 : α → List Value} {T1 : TypeId} {xs : List α} {sz2 : Nat} {enc2 : β → List Value} {T2 : TypeId} {ys : List β} {b lo : Nat} {v1 v2 : Value} {w : World}
theorem Two.chg {G : List Nat} {w' : World} (h : Two sz1 enc1 T1 xs sz2 enc2 T2 ys b lo v1 v2 w) (hc : Chg G w w') (hG : ∀ x ∈ G, x < lo) : Two sz1 enc1 T1 xs sz2 enc2 T2 ys b lo v1 v2 w' := by
  obtain ⟨⟨h1, h2⟩, ⟨h3, h4⟩, ⟨h5, h6⟩, F1, F2, h7, h8, h9, h10, h11⟩ := h
  have hb : b ∉ G := fun hm => by have := hG b hm; omega
  exact ⟨⟨Nat.lt_of_lt_of_le h1 hc.size, h2⟩, ⟨hc.cellOf hb h3, hc.cellOf hb h4⟩, ⟨hc.frozenOf hb h1 h5, hc.frozenOf hb h1 h6⟩, F1, F2,
    h7.chg hc (fun x hx hm => by have := hG x hm; have := (h9 x hx).1; omega), h8.chg hc (fun x hx hm => by have := hG x hm; have := (h10 x hx).1; omega), h9, h10, h11⟩
/-- One more behind field 0, and the field is stored anew. -/
theorem Two.app1 (hen : ∀ x, (enc1 x).length = sz1) (hone : ∀ (x : α), ∀ u ∈ enc1 x, u.oneCell' = true) (t ty : TypeId) (i : TypeInfo) (z : Value) (bytes : Nat)
    (ht : Try.prog.underlying t = some (.slice T1)) (hi : Try.prog.info? T1 = some i) (hz : i.zero = some z) (hsz : i.size = sz1) (hby : i.bytes = bytes) (hzs : z.cells.size = sz1)
    (h : Two sz1 enc1 T1 xs sz2 enc2 T2 ys b lo v1 v2 w) (y : α) (cs : Array Value) (hcs : cs = (enc1 y).toArray) (hl : xs.length < 1000000) (hb1 : (xs.length + 1) * bytes ≤ 140737488355328) :
    ∃ v' w', (Builtin.append_ #[t, t] ty #[v1, .slice (some ⟨w.heap.size, 0, none⟩) 1 1]).run Try.prog (w.alloc (.cells cs T1)) = .ok v' w' ∧
      (Two sz1 enc1 T1 (xs ++ [y]) sz2 enc2 T2 ys b lo v' v2 (w'.setCell ⟨b, 0, none⟩ v') ∧ (w'.cell? ⟨b, 0, none⟩ = some v1 ∧ w'.cell? ⟨b, 1, none⟩ = some v2 ∧ w'.frozen? ⟨b, 0, none⟩ = false ∧ w'.frozen? ⟨b, 1, none⟩ = false) ∧ ∃ G, Chg G w (w'.setCell ⟨b, 0, none⟩ v') ∧ ∀ x ∈ G, lo ≤ x) := by
  subst hcs
  have hbe : Chg [] w (w.alloc (.cells (enc1 y).toArray T1)) := (Chg.refl _ _).alloc _
  obtain ⟨⟨h1, h2⟩, ⟨h3, h4⟩, ⟨h5, h6⟩, F1, F2, h7, h8, h9, h10, h11⟩ := h.chg hbe (by simp)
  obtain ⟨v', w', hr, F', o1, o2, hc⟩ := OwnS.append hen hone t ty T1 i z bytes ht hi hz hsz hby hzs h7 y w.heap.size 1 (fun j u hu => by
    rw [World.cell?_alloc_at _ _ _ _ rfl]; simpa using hu) (by omega) hb1
  have hbF : b ∉ F1 := fun hm => (h9 b hm).2 rfl
  have c0 := hc.cellOf hbF h3
  have c1 := hc.cellOf hbF h4
  have f0 := hc.frozenOf hbF h1 h5
  have f1 := hc.frozenOf hbF h1 h6
  have hbw : b < w'.heap.size := Nat.lt_of_lt_of_le h1 hc.size
  have hnew : ∀ x ∈ F', lo ≤ x ∧ x ≠ b := fun x hx => by
    rcases o2 x hx with h | h
    · exact h9 x h
    · omega
  have hs : Chg [b] w' (w'.setCell ⟨b, 0, none⟩ v') := (Chg.refl _ _).setCell (p := ⟨b, 0, none⟩) (by simp) v'
  have hmine := o1.chg hs (fun x hx hm => by simp at hm; exact (hnew x hx).2 hm)
  have hol := h8.lt
  have hother := (h8.chg hc (fun x hx hm => h11 x hm hx)).chg hs (fun x hx hm => by simp at hm; exact (h10 x hx).2 hm)
  have hdis : ∀ x ∈ F', x ∉ F2 := fun x hx hm => by
    rcases o2 x hx with h | h
    · exact (fun x hx hm => h11 x hm hx) x hm h
    · have := hol x hm; omega
  refine ⟨v', w', hr, ⟨⟨by simpa using hbw, h2⟩, ⟨set_same _ _ _ _ _ c0, (set_near _ _ _ _ _ (by omega)).trans c1⟩, ⟨by simpa [go_sem] using f0, by simpa [go_sem] using f1⟩, F', F2, hmine, hother, hnew, h10, fun x hx => hdis x hx⟩, ⟨c0, c1, f0, f1⟩, b :: F1, ?_, ?_⟩
  · refine ((hbe.mono (by simp)).trans (hc.mono (fun x hx => List.mem_cons_of_mem _ hx))).trans (hs.mono (by simp))
  · intro x hx
    rcases List.mem_cons.1 hx with rfl | hx
    · exact h2
    · exact (h9 x hx).1
/-- One more behind field 1, and the field is stored anew. -/
theorem Two.app2 (hen : ∀ x, (enc2 x).length = sz2) (hone : ∀ (x : β), ∀ u ∈ enc2 x, u.oneCell' = true) (t ty : TypeId) (i : TypeInfo) (z : Value) (bytes : Nat)
    (ht : Try.prog.underlying t = some (.slice T2)) (hi : Try.prog.info? T2 = some i) (hz : i.zero = some z) (hsz : i.size = sz2) (hby : i.bytes = bytes) (hzs : z.cells.size = sz2)
    (h : Two sz1 enc1 T1 xs sz2 enc2 T2 ys b lo v1 v2 w) (y : β) (cs : Array Value) (hcs : cs = (enc2 y).toArray) (hl : ys.length < 1000000) (hb1 : (ys.length + 1) * bytes ≤ 140737488355328) :
    ∃ v' w', (Builtin.append_ #[t, t] ty #[v2, .slice (some ⟨w.heap.size, 0, none⟩) 1 1]).run Try.prog (w.alloc (.cells cs T2)) = .ok v' w' ∧
      (Two sz1 enc1 T1 xs sz2 enc2 T2 (ys ++ [y]) b lo v1 v' (w'.setCell ⟨b, 1, none⟩ v') ∧ (w'.cell? ⟨b, 0, none⟩ = some v1 ∧ w'.cell? ⟨b, 1, none⟩ = some v2 ∧ w'.frozen? ⟨b, 0, none⟩ = false ∧ w'.frozen? ⟨b, 1, none⟩ = false) ∧ ∃ G, Chg G w (w'.setCell ⟨b, 1, none⟩ v') ∧ ∀ x ∈ G, lo ≤ x) := by
  subst hcs
  have hbe : Chg [] w (w.alloc (.cells (enc2 y).toArray T2)) := (Chg.refl _ _).alloc _
  obtain ⟨⟨h1, h2⟩, ⟨h3, h4⟩, ⟨h5, h6⟩, F1, F2, h7, h8, h9, h10, h11⟩ := h.chg hbe (by simp)
  obtain ⟨v', w', hr, F', o1, o2, hc⟩ := OwnS.append hen hone t ty T2 i z bytes ht hi hz hsz hby hzs h8 y w.heap.size 1 (fun j u hu => by
    rw [World.cell?_alloc_at _ _ _ _ rfl]; simpa using hu) (by omega) hb1
  have hbF : b ∉ F2 := fun hm => (h10 b hm).2 rfl
  have c0 := hc.cellOf hbF h3
  have c1 := hc.cellOf hbF h4
  have f0 := hc.frozenOf hbF h1 h5
  have f1 := hc.frozenOf hbF h1 h6
  have hbw : b < w'.heap.size := Nat.lt_of_lt_of_le h1 hc.size
  have hnew : ∀ x ∈ F', lo ≤ x ∧ x ≠ b := fun x hx => by
    rcases o2 x hx with h | h
    · exact h10 x h
    · omega
  have hs : Chg [b] w' (w'.setCell ⟨b, 1, none⟩ v') := (Chg.refl _ _).setCell (p := ⟨b, 1, none⟩) (by simp) v'
  have hmine := o1.chg hs (fun x hx hm => by simp at hm; exact (hnew x hx).2 hm)
  have hol := h7.lt
  have hother := (h7.chg hc (fun x hx hm => h11 x hx hm)).chg hs (fun x hx hm => by simp at hm; exact (h9 x hx).2 hm)
  have hdis : ∀ x ∈ F', x ∉ F1 := fun x hx hm => by
    rcases o2 x hx with h | h
    · exact (fun x hx hm => h11 x hx hm) x hm h
    · have := hol x hm; omega
  refine ⟨v', w', hr, ⟨⟨by simpa using hbw, h2⟩, ⟨(set_near _ _ _ _ _ (by omega)).trans c0, set_same _ _ _ _ _ c1⟩, ⟨by simpa [go_sem] using f0, by simpa [go_sem] using f1⟩, F1, F', hother, hmine, h9, hnew, fun x hx hm => hdis x hm hx⟩, ⟨c0, c1, f0, f1⟩, b :: F2, ?_, ?_⟩
  · refine ((hbe.mono (by simp)).trans (hc.mono (fun x hx => List.mem_cons_of_mem _ hx))).trans (hs.mono (by simp))
  · intro x hx
    rcases List.mem_cons.1 hx with rfl | hx
    · exact h2
    · exact (h10 x hx).1
theorem Two.has {g : Gr} {w : World} {b lo : Nat} {v1 v2 : Value} (h : Two 2 Nd.cells 141 g.ns 4 Ed.cells 143 g.es b lo v1 v2 w) : ∃ F, g.Has (.agg #[v1, v2]) F w ∧ ∀ x ∈ F, lo ≤ x ∧ x ≠ b := by
  obtain ⟨_, _, _, F1, F2, h7, h8, h9, h10, h11⟩ := h
  refine ⟨F1 ++ F2, ⟨F1, F2, rfl, _, _, rfl, OwnS.own (enc := Nd.cells) (fun _ => rfl) h7, OwnS.own (enc := Ed.cells) (fun _ => rfl) h8, fun _ _ => Nat.zero_le _, fun _ _ => Nat.zero_le _, h11⟩, fun x hx => ?_⟩
  rcases List.mem_append.1 hx with h | h
  · exact h9 x h
  · exact h10 x h
end
/-- A graph in the making, in the variable in block b. -/
abbrev GTwo (ns : List Nd) (es : List Ed) (b lo : Nat) (v1 v2 : Value) (w : World) : Prop := Two 2 Nd.cells 141 ns 4 Ed.cells 143 es b lo v1 v2 w
theorem appN {b lo : Nat} {v1 v2 : Value} {w : World} {ns : List Nd} {es : List Ed} (h : GTwo ns es b lo v1 v2 w) (x : Nd) (hl : ns.length < 1000000) :
    ∃ v' w', (Builtin.append_ #[68, 68] 68 #[v1, .slice (some ⟨w.heap.size, 0, none⟩) 1 1]).run Try.prog (w.alloc (.cells #[.string x.l, .int .i64 x.n] 141)) = .ok v' w' ∧
      (GTwo (ns ++ [x]) es b lo v' v2 (w'.setCell ⟨b, 0, none⟩ v') ∧ (w'.cell? ⟨b, 0, none⟩ = some v1 ∧ w'.cell? ⟨b, 1, none⟩ = some v2 ∧ w'.frozen? ⟨b, 0, none⟩ = false ∧ w'.frozen? ⟨b, 1, none⟩ = false) ∧ (∃ p c, v' = .slice p (ns.length + 1) c) ∧ ∃ G, Chg G w (w'.setCell ⟨b, 0, none⟩ v') ∧ ∀ x ∈ G, lo ≤ x) := by
  obtain ⟨i, hi, hzz⟩ := Option.map_eq_some_iff.1 infoNode
  simp only [Prod.mk.injEq] at hzz
  obtain ⟨v', w', h1, h2, h3, h4⟩ := Two.app1 (enc1 := Nd.cells) (sz1 := 2) (fun _ => rfl) (fun x u hu => by simp [Nd.cells] at hu; rcases hu with rfl | rfl <;> rfl) 68 68 i _ 24 Try.underlying68 hi hzz.1 hzz.2.1 hzz.2.2 (by decide) h _ _ rfl hl (by omega)
  refine ⟨v', w', h1, h2, h3, ?_, h4⟩
  obtain ⟨_, _, _, F1, F2, o1, o2, _⟩ := h2
  simpa using OwnS.form o1
theorem appE {b lo : Nat} {v1 v2 : Value} {w : World} {ns : List Nd} {es : List Ed} (h : GTwo ns es b lo v1 v2 w) (x : Ed) (hl : es.length < 1000000) :
    ∃ v' w', (Builtin.append_ #[69, 69] 69 #[v2, .slice (some ⟨w.heap.size, 0, none⟩) 1 1]).run Try.prog (w.alloc (.cells #[.int .i64 x.f, .int .i64 x.t, .string x.l, .int .i64 x.n] 143)) = .ok v' w' ∧
      (GTwo ns (es ++ [x]) b lo v1 v' (w'.setCell ⟨b, 1, none⟩ v') ∧ (w'.cell? ⟨b, 0, none⟩ = some v1 ∧ w'.cell? ⟨b, 1, none⟩ = some v2 ∧ w'.frozen? ⟨b, 0, none⟩ = false ∧ w'.frozen? ⟨b, 1, none⟩ = false) ∧ (∃ p c, v' = .slice p (es.length + 1) c) ∧ ∃ G, Chg G w (w'.setCell ⟨b, 1, none⟩ v') ∧ ∀ x ∈ G, lo ≤ x) := by
  obtain ⟨i, hi, hzz⟩ := Option.map_eq_some_iff.1 infoEdge
  simp only [Prod.mk.injEq] at hzz
  obtain ⟨v', w', h1, h2, h3, h4⟩ := Two.app2 (enc2 := Ed.cells) (sz2 := 4) (fun _ => rfl) (fun x u hu => by simp [Ed.cells] at hu; rcases hu with rfl | rfl | rfl | rfl <;> rfl) 69 69 i _ 40 Try.underlying69 hi hzz.1 hzz.2.1 hzz.2.2 (by decide) h _ _ rfl hl (by omega)
  refine ⟨v', w', h1, h2, h3, ?_, h4⟩
  obtain ⟨_, _, _, F1, F2, o1, o2, _⟩ := h2
  simpa using OwnS.form o2
end Go.Proofs.Ytfdkmngkpihpbaa
namespace Go.Proofs.Ytfdkmngkpihpbaa
open Go.RowKit

def OwnI (w : World) (v : Value) (xs : List Int) (F : List Nat) : Prop := OwnS 1 intCells 3 w v xs F
theorem OwnI.own {w : World} {v : Value} {xs : List Int} {F : List Nat} (h : OwnI w v xs F) : OwnSl 1 intCells w v xs F := OwnS.own (enc := intCells) (fun _ => rfl) h
theorem OwnI.chg {w w' : World} {v : Value} {xs : List Int} {F G : List Nat} (h : OwnI w v xs F) (hc : Chg G w w') (hd : ∀ x ∈ F, x ∉ G) : OwnI w' v xs F := OwnS.chg h hc hd
theorem OwnI.below {w w' : World} {v : Value} {xs : List Int} {F : List Nat} (h : OwnI w v xs F) (hc : Below w.heap.size w w') : OwnI w' v xs F := OwnS.below h hc
theorem OwnI.lt {w : World} {v : Value} {xs : List Int} {F : List Nat} (h : OwnI w v xs F) : ∀ x ∈ F, x < w.heap.size := OwnS.lt h
theorem OwnI.form {w : World} {v : Value} {xs : List Int} {F : List Nat} (h : OwnI w v xs F) : ∃ p cap, v = .slice p xs.length cap := OwnS.form h
theorem OwnI.empty (w : World) (p : Option Addr) : OwnI w (.slice p 0 0) [] [] := OwnS.empty p
theorem infoI : ∃ i, Try.prog.info? 3 = some i ∧ i.zero = some (.int .i64 0) ∧ i.size = 1 ∧ i.bytes = 8 := by
  obtain ⟨i, hi, hzz⟩ := Option.map_eq_some_iff.1 infoIntW
  simp only [Prod.mk.injEq] at hzz
  exact ⟨i, hi, hzz.1, hzz.2.1, hzz.2.2⟩
/-- What an append leaves. -/
def AppI (E : World) (xs : List Int) (F : List Nat) (v' : Value) (w' : World) : Prop := ∃ F', OwnI w' v' xs F' ∧ (∀ x ∈ F', x ∈ F ∨ E.heap.size ≤ x) ∧ Chg F E w'
/-- One more int, out of a new row of one. -/
theorem app_int {E : World} {s : Value} {ys : List Int} {F : List Nat} (h : OwnI E s ys F) (x : Int) (hl : ys.length < 3000000) (ty : TypeId) :
    ∃ v' w', (Builtin.append_ #[23, 23] ty #[s, .slice (some ⟨E.heap.size, 0, none⟩) 1 1]).run Try.prog (E.alloc (.cells #[.int .i64 x] 3)) = .ok v' w' ∧ AppI E (ys ++ [x]) F v' w' := by
  obtain ⟨i, hi, hz, hs, hb⟩ := infoI
  have hbe : Below E.heap.size E (E.alloc (.cells #[.int .i64 x] 3)) := (Below.refl _ _).alloc (Nat.le_refl _) _
  obtain ⟨v', w', hr, F', ho, hF, hc⟩ := OwnS.append (enc := intCells) (sz := 1) (fun _ => rfl) (fun x u hu => by simp [intCells] at hu; subst hu; rfl) 23 ty 3 i _ 8 Try.underlying23 hi hz hs hb (by decide) (h.below hbe) x E.heap.size 1
    (fun j u hu => by
      obtain rfl : j = 0 := by
        have hj := (List.getElem?_eq_some_iff.1 hu).1
        simp [intCells] at hj; omega
      simp [intCells] at hu; subst hu; simp [go_sem]) hl (by omega)
  exact ⟨v', w', hr, F', ho, fun x hx => by rcases hF x hx with h | h; (exact .inl h); (simp at h; exact .inr (by omega)), (Chg.of_below hbe F).trans hc⟩
/-- A whole row of ints. -/
theorem app_ints {E : World} {s u : Value} {xs ys : List Int} {F : List Nat} {B : Nat} (h : OwnI E s xs F) (hu : Sl 1 intCells B E u ys) (hl : xs.length + ys.length ≤ 3000000) (ty : TypeId) :
    ∃ v' w', (Builtin.append_ #[23, 23] ty #[s, u]).run Try.prog E = .ok v' w' ∧ AppI E (xs ++ ys) F v' w' := by
  obtain ⟨i, hi, hz, hs, hb⟩ := infoI
  exact OwnS.appends (enc := intCells) (sz := 1) (fun _ => rfl) (fun x u hu => by simp [intCells] at hu; subst hu; rfl) 23 ty 3 i _ 8 Try.underlying23 hi hz hs hb (by decide) h ys u B hu hl (by omega)

/-- xs, turned in its first a places and in its last a places. -/
def Rv (xs : List Int) (a : Nat) (ys : List Int) : Prop := ys.length = xs.length ∧ ∀ i (h : i < ys.length) (h1 : i < xs.length) (h2 : xs.length - 1 - i < xs.length), ys[i] = if i < a ∨ xs.length ≤ i + a then xs[xs.length - 1 - i] else xs[i]
theorem Rv.zero (xs : List Int) : Rv xs 0 xs := ⟨rfl, fun i _ h1 _ => by rw [if_neg (by omega)]⟩
theorem Rv.done {xs ys : List Int} {a : Nat} (h : Rv xs a ys) (ha : xs.length ≤ 2 * a + 1) : ys = xs.reverse := by
  refine List.ext_getElem (by simp [h.1]) fun i h1 h2 => ?_
  have hx : i < xs.length := by rw [← h.1]; exact h1
  rw [h.2 i h1 hx (by omega), List.getElem_reverse]
  split
  · rfl
  · have : xs.length - 1 - i = i := by omega
    simp only [this]
theorem Rv.step {xs ys : List Int} {a b : Nat} (h : Rv xs a ys) (hb : b = xs.length - 1 - a) (hab : a < b) (ha : a < ys.length) (hbl : b < ys.length) : Rv xs (a + 1) ((ys.set a ys[b]).set b ys[a]) := by
  have hl := h.1
  refine ⟨by simpa using hl, fun i hi h1 h2 => ?_⟩
  simp only [List.getElem_set]
  by_cases e1 : b = i
  · subst e1
    rw [if_pos rfl, h.2 a ha (by omega) (by omega), if_neg (by omega), if_pos (by omega)]
    simp only [show xs.length - 1 - b = a by omega]
  · rw [if_neg e1]
    by_cases e2 : a = i
    · subst e2
      rw [if_pos rfl, h.2 b hbl (by omega) (by omega), if_neg (by omega), if_pos (by omega)]
      simp only [← hb]
    · rw [if_neg e2, h.2 i (by simpa using hi) h1 h2]
      by_cases e3 : i < a ∨ xs.length ≤ i + a
      · rw [if_pos e3, if_pos (by omega)]
      · rw [if_neg e3, if_neg (by omega)]
theorem OwnSl.store1 {α : Type} {enc : α → List Value} {w : World} {b off len cap : Nat} {xs : List α} {F : List Nat} (h : OwnSl 1 enc w (.slice (some ⟨b, off, none⟩) len cap) xs F) {k : Nat} (hk : k < xs.length) (hsz : ∀ x, (enc x).length = 1)
    (y : α) (u : Value) (hy : enc y = (enc xs[k]).set 0 u) : OwnSl 1 enc (w.setCell ⟨b, off + k, none⟩ u) (.slice (some ⟨b, off, none⟩) len cap) (xs.set k y) F := by
  have := h.store (k := k) hk hsz 0 (by decide) y u hy
  rwa [Nat.mul_one, Nat.add_zero] at this

end Go.Proofs.Ytfdkmngkpihpbaa
namespace Go.Proofs.Ytfdkmngkpihpbaa
open Go.RowKit

def inS (xs : List ByteArray) (s : ByteArray) : Bool := xs.any fun a => a.toList == s.toList
theorem inS_hit {xs : List ByteArray} {s : ByteArray} {m : Nat} (hm : m < xs.length) (h : (xs[m].toList == s.toList) = true) : inS xs s = true :=
  List.any_eq_true.2 ⟨_, List.getElem_mem hm, h⟩
theorem inS_miss {xs : List ByteArray} {s : ByteArray} (h : ∀ (j : Nat) (hj : j < xs.length), (xs[j].toList == s.toList) = false) : inS xs s = false := by
  unfold inS
  rw [List.any_eq_false]
  intro a ha
  obtain ⟨j, hj, rfl⟩ := List.getElem_of_mem ha
  rw [h j hj]
  exact Bool.false_ne_true
set_option maxRecDepth 100000 in
theorem l2In_any (xs : List ByteArray) (s : ByteArray) (p : Option Addr) (c : Nat) (w : World) (hm : xs.length ≤ 4611686018427387904)
    (hp : xs.length = 0 ∨ ∃ b off, p = some ⟨b, off, none⟩ ∧ ∀ (i : Nat) (h : i < xs.length), w.cell? ⟨b, off + i, none⟩ = some (.string xs[i])) :
    Calls Try.prog 100 #[.slice p xs.length c, .string s] w fun en w' => en = .returned (.bool (inS xs s)) ∧ w = w' := by
  have HP := Lib.hid hp
  clear hp
  obtain ⟨n, hn⟩ : ∃ n, n = xs.length := ⟨_, rfl⟩
  go_enter Try.func100, Try.ntmps100
  go_wp2_with fail
  go_loopw [5] (fun i wr => ∃ (m : Nat), m ≤ xs.length ∧ i = .int .i64 (m : Int) ∧ RowKit.Hid (∀ (j : Nat) (hj : j < xs.length), j < m → (xs[j].toList == s.toList) = false) ∧ wr = w) (fun i _ => xs.length - (intOf i).toNat)
  case atStart => exact ⟨0, Nat.zero_le _, rfl, Lib.hid (fun j _ h => by omega), rfl⟩
  case round =>
    obtain ⟨m, hm', rfl, HE, rfl⟩ := hrel
    by_cases hlt : m < xs.length
    · obtain ⟨b, off, rfl, hc⟩ := HP.out.resolve_left (by omega)
      have c0 := hc m hlt
      have hst : (xs[m].toList == s.toList) = false → ∀ (j : Nat) (hj : j < xs.length), j < m + 1 → (xs[j].toList == s.toList) = false := by
        intro h j hj hj2
        by_cases hjm : j = m
        · subst hjm; exact h
        · exact HE.out j hj (by omega)
      have hhit := inS_hit (s := s) hlt
      have HST := Lib.hid hst
      have HHIT := Lib.hid hhit
      obtain ⟨a, ea⟩ : ∃ a, a = xs[m] := ⟨_, rfl⟩
      rw [← ea] at c0
      have EA := Lib.hid ea
      clear hc hst hhit ea hn
      cases he : (a.toList == s.toList) with
      | true =>
        have HT := Lib.hid (HHIT.out (by rw [← EA.out]; exact he))
        go_wp2_with fail
        go_ret
        exact ⟨by rw [HT.out]; rfl, rfl⟩
      | false =>
        have HS2 := Lib.hid (HST.out (by rw [← EA.out]; exact he))
        go_wp2_with fail
        go_roundw
        case rel => exact ⟨m + 1, by omega, by go_num, HS2, by first | rfl | trivial⟩
        case measure => simp [intOf]; omega
    · obtain rfl : m = xs.length := by omega
      have HT := Lib.hid (inS_miss fun j hj => HE.out j hj hj)
      clear hn
      go_wp2_with fail
      go_ret
      exact ⟨by rw [HT.out]; rfl, rfl⟩
end Go.Proofs.Ytfdkmngkpihpbaa
namespace Go.Proofs.Ytfdkmngkpihpbaa
open Go.RowKit

theorem inS_mem {xs : List ByteArray} {s : ByteArray} : inS xs s = hasS xs s := by
  by_cases h : s ∈ xs
  · rw [hasS_yes h]
    exact List.any_eq_true.2 ⟨s, h, str_same rfl⟩
  · rw [hasS_no h]
    unfold inS
    rw [List.any_eq_false]
    intro a ha
    rw [str_diff (fun e => h (by rw [← e]; exact ha))]
    exact Bool.false_ne_true
theorem okNum_lo' {n : Int} (h : n < -1) : okNum n = false := by unfold okNum; rw [decide_eq_false (p := -1 ≤ n) (by omega)]; rfl
theorem okNum_hi' {n : Int} (h : 1000 < n) : okNum n = false := by unfold okNum; rw [decide_eq_false (p := n ≤ 1000) (by omega), Bool.and_false]
theorem okNum_in' {n : Int} (h : ¬ n < -1) (h2 : ¬ 1000 < n) : okNum n = true := by unfold okNum; rw [decide_eq_true (p := -1 ≤ n) (by omega), decide_eq_true (p := n ≤ 1000) (by omega)]; rfl
theorem rowOk_len' {k : Nat} {r : List Int} (h : r.length ≠ k) : rowOk k r = false := by unfold rowOk; rw [decide_eq_false h]; rfl
theorem rowOk_all' {k : Nat} {r : List Int} (h : r.length = k) : rowOk k r = r.all okNum := by unfold rowOk; rw [decide_eq_true h]; rfl
theorem ok_names' {x : Tb} (h : tbNames x.cs = false) : x.ok = false := by unfold Tb.ok; rw [h]; rfl
theorem ok_many' {x : Tb} (h : 400 < x.rs.length) : x.ok = false := by unfold Tb.ok; rw [decide_eq_false (p := x.rs.length ≤ 400) (by omega)]; simp
theorem ok_rows' {x : Tb} (h : tbNames x.cs = true) (h2 : ¬ 400 < x.rs.length) : x.ok = x.rs.all (rowOk x.cs.length) := by unfold Tb.ok; rw [h, decide_eq_true (p := x.rs.length ≤ 400) (by omega)]; simp
/-- What l2In wants of a row of texts. -/
theorem kStr_cells {B : Nat} {w : World} {p : Option Addr} {n cap : Nat} {xs : List ByteArray} (h : kStr.Rd B w (.slice p n cap) xs) : xs.length = 0 ∨ ∃ b off, p = some ⟨b, off, none⟩ ∧ ∀ (i : Nat) (h : i < xs.length), w.cell? ⟨b, off + i, none⟩ = some (.string xs[i]) := by
  by_cases h0 : xs.length = 0
  · exact .inl h0
  · obtain ⟨b, off, e, _, _⟩ := kStr_get h (k := 0) (by omega)
    refine .inr ⟨b, off, e, fun i hi => ?_⟩
    obtain ⟨b', off', e', _, hc⟩ := kStr_get h hi
    rw [e] at e'
    cases e'
    exact hc
theorem specIn_any (xs : List ByteArray) (s : ByteArray) (v : Value) (B : Nat) (w : World) (hv : kStr.Rd B w v xs) (hn : xs.length ≤ 1048576) :
    Calls Try.prog 100 #[v, .string s] w fun e w' => e = .returned (.bool (hasS xs s)) ∧ w = w' := by
  obtain ⟨p, cap, rfl⟩ := hv.form
  rw [← inS_mem]
  exact l2In_any xs s p cap w (by omega) (kStr_cells hv)
theorem tb_drewN {B : Nat} {a w : World} (h : Below B a w) (n : Nat) : Below B a (w.drewN n) := by
  induction n with
  | zero => exact h
  | succ n ih => exact ih.drew
/-- Names are valid up to k. -/
def NameTo (cs : List ByteArray) (k : Nat) : Prop := OnceA cs k ∧ AllTo lv cs k
theorem names_full {cs : List ByteArray} (h : NameTo cs cs.length) : tbNames cs = (decide (1 ≤ cs.length) && decide (cs.length ≤ 6)) := by
  unfold tbNames onceS
  rw [h.2.full, decide_eq_true h.1.full, Bool.and_true, Bool.and_true]
theorem names_lv {cs : List ByteArray} {k : Nat} (hk : k < cs.length) (h : lv cs[k] = false) : tbNames cs = false := by
  unfold tbNames; rw [all_no hk h, Bool.and_false]
theorem names_in {cs : List ByteArray} {k : Nat} (hk : k < cs.length) (h : cs[k] ∈ cs.take k) : tbNames cs = false := by
  unfold tbNames onceS; rw [decide_eq_false (once_bad hk h), Bool.and_false, Bool.false_and]
set_option maxRecDepth 100000 in
set_option maxHeartbeats 2000000 in
theorem l11Names_any (xs : List ByteArray) (v : Value) (B : Nat) (w : World) (hv : kStr.Rd B w v xs) (hB : B ≤ w.heap.size) (hok : ∀ s ∈ xs, s.size ≤ maxLen) (hn : xs.length ≤ 1048576) :
    Calls Try.prog 65 #[v] w fun e w' => e = .returned (.bool (tbNames xs)) ∧ Below w.heap.size w w' := by
  obtain ⟨p, cap, rfl⟩ := hv.form
  have hmx := hv.max
  unfold maxLen at hmx
  have HV := Lib.hid hv
  have HOK := Lib.hid hok
  clear hv hok
  go_enter Try.func65, Try.ntmps65
  go_wp2_with fail
  go_loopw [3] (fun i wr => ∃ k : Nat, k ≤ xs.length ∧ i = .int .i64 k ∧ RowKit.Hid (NameTo xs k) ∧ Below w.heap.size w wr) (fun i _ => xs.length - (intOf i).toNat)
  case atStart => exact ⟨0, Nat.zero_le _, rfl, Lib.hid ⟨OnceA.zero _, AllTo.zero _ _⟩, Below.refl _ _⟩
  case round =>
    obtain ⟨k, hk, rfl, ha, hbw⟩ := hrel
    have hsz := hbw.size
    have HB := Lib.hid hbw
    clear hbw
    by_cases hlt : k < xs.length
    · have hv' := HV.out.to (HB.out.mono hB) (Nat.le_refl _)
      have HS := Lib.hid (fun (E : World) (hE : Below wr.heap.size wr E) => ((hv'.take (Nat.le_of_lt hlt)).to (hE.mono (Nat.le_trans hB hsz)) (Nat.le_refl _)))
      obtain ⟨b, off, rfl, hb, c0⟩ := kStr_get hv' hlt
      have hx := HOK.out _ (List.getElem_mem hlt)
      have hgood := Lib.hid (show xs[k] ∉ xs.take k → lv xs[k] = true → NameTo xs (k + 1) from fun h h2 => ⟨ha.out.1.succ hlt h, ha.out.2.succ hlt h2⟩)
      have hin := Lib.hid (names_in (cs := xs) hlt)
      have hlv := Lib.hid (names_lv (cs := xs) hlt)
      obtain ⟨x, ex⟩ : ∃ x, x = xs[k] := ⟨_, rfl⟩
      rw [← ex] at hgood hin hlv c0 hx
      have HX := Lib.hid hx
      have HTL := Lib.hid (show (xs.take k).length ≤ 1048576 by rw [List.length_take]; omega)
      have hbr : b < wr.heap.size := by omega
      have HK := Lib.hid (fun (E : World) (hE : Below wr.heap.size wr E) => (keepc hE hbr c0 : E.cell? ⟨b, off + k, none⟩ = some (.string x)))
      have r0 := Below.refl wr.heap.size wr
      have hkl : k ≤ cap := by omega
      have hkk : (k : Int) < (xs.length : Int) := by omega
      clear ex ha hv' hx
      cases hE : lv x with
      | false =>
        have HG := Lib.hid (hlv.out hE)
        have CL := Lib.hid (fun (E : World) => (Calls.mono (hE ▸ specLabelValid_any x E HX.out) (fun _ _ h => ⟨h.1, h.2.symm⟩) : Calls Try.prog 99 #[.string x] E fun e w' => e = .returned (.bool false) ∧ w' = E))
        clear hE hgood hin hlv
        go_wp2_with fail
        go_quiet ((go_at_call 99; exact Calls.quiet_of_same (CL.out _)))
        go_wp2_with fail
        go_ret
        exact ⟨ret_bool (by rw [HG.out]), tb_drewN HB.out _⟩
      | true =>
        have CL := Lib.hid (fun (E : World) => (Calls.mono (hE ▸ specLabelValid_any x E HX.out) (fun _ _ h => ⟨h.1, h.2.symm⟩) : Calls Try.prog 99 #[.string x] E fun e w' => e = .returned (.bool true) ∧ w' = E))
        by_cases hM : x ∈ xs.take k
        · have HG := Lib.hid (hin.out hM)
          have CI := Lib.hid (fun (E : World) (hE : Below wr.heap.size wr E) => (Calls.mono ((hasS_yes hM) ▸ specIn_any (xs.take k) x _ _ E (HS.out E hE) HTL.out) (fun _ _ h => ⟨h.1, h.2.symm⟩) : Calls Try.prog 100 #[.slice (some ⟨b, off, none⟩) k cap, .string x] E fun e w' => e = .returned (.bool true) ∧ w' = E))
          clear hE hM hgood hin hlv
          go_wp2_with fail
          go_quiet (first | (go_at_call 99; exact Calls.quiet_of_same (CL.out _)) | (go_at_call 100; exact Calls.quiet_of_same (CI.out _ (tb_drewN (Below.refl _ _) _))))
          go_wp2_with fail
          go_ret
          exact ⟨ret_bool (by rw [HG.out]), tb_drewN HB.out _⟩
        · have HG := Lib.hid (hgood.out hM hE)
          have CI := Lib.hid (fun (E : World) (hE : Below wr.heap.size wr E) => (Calls.mono ((hasS_no hM) ▸ specIn_any (xs.take k) x _ _ E (HS.out E hE) HTL.out) (fun _ _ h => ⟨h.1, h.2.symm⟩) : Calls Try.prog 100 #[.slice (some ⟨b, off, none⟩) k cap, .string x] E fun e w' => e = .returned (.bool false) ∧ w' = E))
          clear hE hM hgood hin hlv
          go_wp2_with fail
          go_quiet (first | (go_at_call 99; exact Calls.quiet_of_same (CL.out _)) | (go_at_call 100; exact Calls.quiet_of_same (CI.out _ (tb_drewN (Below.refl _ _) _))))
          go_wp2_with fail
          go_roundw
          case rel => exact ⟨k + 1, by omega, by go_num, HG, tb_drewN HB.out _⟩
          case measure => simp [intOf]; omega
    · obtain rfl : k = xs.length := by omega
      have HG := Lib.hid (names_full ha.out)
      clear ha
      by_cases h1 : 1 ≤ xs.length
      · have q0 : decide ((1 : Int) ≤ (xs.length : Int)) = true := decide_eq_true (by omega)
        rw [decide_eq_true h1] at HG
        by_cases h6 : xs.length ≤ 6
        · have q1 : decide ((xs.length : Int) ≤ 6) = true := decide_eq_true (by omega)
          rw [decide_eq_true h6] at HG
          clear h1 h6
          go_wp2_with fail
          go_ret
          exact ⟨ret_bool (by rw [HG.out]; rfl), HB.out⟩
        · have q1 : decide ((xs.length : Int) ≤ 6) = false := decide_eq_false (by omega)
          rw [decide_eq_false h6] at HG
          clear h1 h6
          go_wp2_with fail
          go_ret
          exact ⟨ret_bool (by rw [HG.out]; rfl), HB.out⟩
      · have q0 : decide ((1 : Int) ≤ (xs.length : Int)) = false := decide_eq_false (by omega)
        rw [decide_eq_false h1] at HG
        clear h1
        go_wp2_with fail
        go_ret
        exact ⟨ret_bool (by rw [HG.out]; rfl), HB.out⟩

set_option maxRecDepth 100000 in
set_option maxHeartbeats 2000000 in
theorem specTableValid_any (x : Tb) (v : Value) (B : Nat) (w : World) (hx : x.At B w v) (hB : B ≤ w.heap.size) (hok : ∀ s ∈ x.cs, s.size ≤ maxLen) (hn : x.cs.length ≤ 1048576) :
    Calls Try.prog 23 #[v] w fun e w' => e = .returned (.bool x.ok) ∧ Below w.heap.size w w' := by
  obtain ⟨a, b, rfl, ha, hb⟩ := hx
  obtain ⟨p, c, rfl⟩ := ha.form
  obtain ⟨q, d, rfl⟩ := hb.form
  have hm1 := ha.max
  have hm2 := hb.max
  unfold maxLen at hm1 hm2
  have HA := Lib.hid ha
  have HBR := Lib.hid hb
  have HOK := Lib.hid hok
  have HN := Lib.hid (ok_names' (x := x))
  have HM := Lib.hid (ok_many' (x := x))
  have HR := Lib.hid (ok_rows' (x := x))
  clear ha hb hok
  go_enter Try.func23, Try.ntmps23
  go_wp2_with fail
  have H0 := Lib.hid ((Below.refl w.heap.size w).alloc (Nat.le_refl _) (.cells #[.slice p x.cs.length c, .slice q x.rs.length d] 33))
  with_reducible refine (l11Names_any x.cs _ B _ (HA.out.to (H0.out.mono hB) (Nat.le_refl _)) (by simp; omega) HOK.out hn).mono ?_
  rintro e w1 ⟨rfl, hb1⟩
  have hs1 : w.heap.size < w1.heap.size := by have := hb1.size; simp at this; omega
  have c0 : w1.cell? ⟨w.heap.size, 0, none⟩ = some (.slice p x.cs.length c) := new_cell hb1 (j := 0) rfl
  have c1 : w1.cell? ⟨w.heap.size, 1, none⟩ = some (.slice q x.rs.length d) := new_cell hb1 (j := 1) rfl
  have HB1 := Lib.hid (H0.out.trans (hb1.mono (by simp)))
  clear hb1 H0
  cases hE : tbNames x.cs with
  | false =>
    have HF := Lib.hid (HN.out hE)
    clear hE
    go_wp2_with fail
    go_ret
    exact ⟨ret_bool (by rw [HF.out]), HB1.out⟩
  | true =>
    by_cases h4 : 400 < x.rs.length
    · have HF := Lib.hid (HM.out h4)
      have q2 : decide ((400 : Int) < (x.rs.length : Int)) = true := decide_eq_true (by omega)
      have q3 : ((400 : Int) < (x.rs.length : Int)) = True := eq_true (by omega)
      clear hE h4
      go_wp2_with fail
      go_ret
      exact ⟨ret_bool (by rw [HF.out]), HB1.out⟩
    · have HF := Lib.hid (HR.out hE h4)
      have q2 : decide ((400 : Int) < (x.rs.length : Int)) = false := decide_eq_false (by omega)
      have q3 : ((400 : Int) < (x.rs.length : Int)) = False := eq_false (by omega)
      have hrl : x.rs.length ≤ 400 := by omega
      clear hE h4
      have CK := Lib.hid (fun (E : World) (hE : Below w1.heap.size w1 E) => (⟨by have := hE.size; omega, keepc hE hs1 c0, keepc hE hs1 c1⟩ : w.heap.size < E.heap.size ∧ E.cell? ⟨w.heap.size, 0, none⟩ = some (.slice p x.cs.length c) ∧ E.cell? ⟨w.heap.size, 1, none⟩ = some (.slice q x.rs.length d)))
      go_wp2_with fail
      clear c0 c1
      go_loopw [3] (fun i wr => ∃ k : Nat, k ≤ x.rs.length ∧ i = .int .i64 k ∧ RowKit.Hid (AllTo (rowOk x.cs.length) x.rs k) ∧ Below w1.heap.size w1 wr) (fun i _ => x.rs.length - (intOf i).toNat)
      case atStart => exact ⟨0, Nat.zero_le _, rfl, Lib.hid (AllTo.zero _ _), Below.refl _ _⟩
      case round =>
        rename World => wo
        obtain ⟨k, hk, rfl, ha, hbw⟩ := hrel
        have hsz := hbw.size
        have HB := Lib.hid hbw
        obtain ⟨hz0, c0, c1⟩ := CK.out _ hbw
        clear hbw
        by_cases hlt : k < x.rs.length
        · obtain ⟨b, off, q2, c2, rfl, hb, d0, hin⟩ := kRow_get (HBR.out.to ((HB1.out.trans (HB.out.mono (by omega))).mono hB) (Nat.le_refl _)) hlt
          have hgood := Lib.hid (fun h => ha.out.succ hlt h)
          have hbad := Lib.hid (fun h => all_no (p := rowOk x.cs.length) (xs := x.rs) hlt h)
          obtain ⟨y, ey⟩ : ∃ y, y = x.rs[k] := ⟨_, rfl⟩
          rw [← ey] at d0 hin hgood hbad
          have HIN := Lib.hid hin
          have hmy := hin.max
          unfold maxLen at hmy
          have hbo : b < wo.heap.size := by have := HB1.out.size; omega
          clear ey ha hin
          by_cases hn : y.length = x.cs.length
          · have HS := Lib.hid (rowOk_all' hn)
            have hq : ((y.length : Int) != (x.cs.length : Int)) = false := by rw [hn]; simp
            clear hn
            have DK := Lib.hid (fun (E : World) (hE : Below wo.heap.size wo E) => (⟨keepc hE hz0 c0, keepc hE hz0 c1, keepc hE hbo d0⟩ : E.cell? ⟨w.heap.size, 0, none⟩ = some (.slice p x.cs.length c) ∧ E.cell? ⟨w.heap.size, 1, none⟩ = some (.slice (some ⟨b, off, none⟩) x.rs.length d) ∧ E.cell? ⟨b, off + k, none⟩ = some (.slice q2 y.length c2)))
            go_wp2_with fail
            go_quiet (fail)
            go_wp2_with fail
            go_loopw [4] (fun i wr => ∃ j : Nat, j ≤ y.length ∧ i = .int .i64 j ∧ RowKit.Hid (AllTo okNum y j) ∧ Below wo.heap.size wo wr) (fun i _ => y.length - (intOf i).toNat)
            case atStart => exact ⟨0, Nat.zero_le _, rfl, Lib.hid (AllTo.zero _ _), tb_drewN (Below.refl _ _) _⟩
            case round =>
              obtain ⟨j, hj, rfl, haj, hbj⟩ := hrel
              have hszj := hbj.size
              have HBJ := Lib.hid hbj
              clear c0 c1 d0
              obtain ⟨c0, c1, d0⟩ := DK.out _ hbj
              have HBA := Lib.hid (HB.out.trans (hbj.mono hsz))
              clear hbj
              by_cases hjt : j < y.length
              · obtain ⟨g, og, rfl, hg, e0⟩ := (HIN.out.below (HBJ.out.mono (by have := HB1.out.size; omega))).it hjt
                have hgoodj := Lib.hid (fun h => haj.out.succ hjt h)
                have hbadj := Lib.hid (fun h => all_no (p := okNum) (xs := y) hjt h)
                obtain ⟨n, en⟩ : ∃ n, n = y[j] := ⟨_, rfl⟩
                rw [← en] at e0 hgoodj hbadj
                clear en haj
                have hjl : (j : Int) < (y.length : Int) := by omega
                have hkl : (k : Int) < (x.rs.length : Int) := by omega
                by_cases h0 : n < -1
                · have p0 : decide (n < -1) = true := decide_eq_true h0
                  have HX := Lib.hid (hbad.out (by rw [HS.out]; exact hbadj.out (okNum_lo' h0)))
                  clear h0 hgood hbad hgoodj hbadj
                  go_wp2_with fail
                  go_ret
                  exact ⟨ret_bool (by rw [HF.out, HX.out]), HB1.out.trans (HBA.out.mono (by omega))⟩
                · have p0 : decide (n < -1) = false := decide_eq_false h0
                  by_cases h1 : 1000 < n
                  · have p1 : decide (1000 < n) = true := decide_eq_true h1
                    have HX := Lib.hid (hbad.out (by rw [HS.out]; exact hbadj.out (okNum_hi' h1)))
                    clear h0 h1 hgood hbad hgoodj hbadj
                    go_wp2_with fail
                    go_ret
                    exact ⟨ret_bool (by rw [HF.out, HX.out]), HB1.out.trans (HBA.out.mono (by omega))⟩
                  · have p1 : decide (1000 < n) = false := decide_eq_false h1
                    have HX := Lib.hid (hgoodj.out (okNum_in' h0 h1))
                    clear h0 h1 hgoodj hbadj
                    go_wp2_with fail
                    go_roundw
                    case rel => exact ⟨j + 1, by omega, by go_num, HX, HBJ.out⟩
                    case measure => simp [intOf]; omega
              · obtain rfl : j = y.length := by omega
                have HX := Lib.hid (hgood.out (by rw [HS.out]; exact haj.out.full))
                have hkl : (k : Int) < (x.rs.length : Int) := by omega
                clear hgood hbad haj
                go_wp2_with fail
                go_roundw
                case rel => exact ⟨k + 1, by omega, by go_num, HX, HBA.out⟩
                case measure => simp [intOf]; omega
          · have HS := Lib.hid (rowOk_len' hn)
            have hq : ((y.length : Int) != (x.cs.length : Int)) = true := by simp; omega
            have HX := Lib.hid (hbad.out HS.out)
            have hkl : (k : Int) < (x.rs.length : Int) := by omega
            clear hn hgood hbad
            go_wp2_with fail
            go_quiet (fail)
            go_wp2_with fail
            go_ret
            exact ⟨ret_bool (by rw [HF.out, HX.out]), tb_drewN (HB1.out.trans (HB.out.mono (by omega))) _⟩
        · obtain rfl : k = x.rs.length := by omega
          have HX := Lib.hid ha.out.full
          go_wp2_with fail
          go_ret
          exact ⟨ret_bool (by rw [HF.out, HX.out]), HB1.out.trans (HB.out.mono (by omega))⟩
end Go.Proofs.Ytfdkmngkpihpbaa
namespace Go.Proofs.Ytfdkmngkpihpbaa
open Go.RowKit

set_option maxRecDepth 100000 in
set_option maxHeartbeats 1000000 in
theorem gpInts_any (xs : List Int) (v v' : Value) (B : Nat) (w : World) (hv : Sl 1 intCells B w v xs) (hv' : Sl 1 intCells B w v' xs) (hB : B ≤ w.heap.size) :
    Calls Try.prog 24 #[v, v'] w fun e w' => e = .returned (.bool true) ∧ Below w.heap.size w w' := by
  obtain ⟨p, cap, rfl⟩ := hv.form
  obtain ⟨p', cap', rfl⟩ := hv'.form
  have hm := hv.max
  have hm' := hv'.max
  unfold maxLen at hm hm'
  go_enter Try.func24, Try.ntmps24
  go_wp2_with fail
  go_loopw [5] (fun i wr => ∃ k : Nat, k ≤ xs.length ∧ i = .int .i64 k ∧ Below w.heap.size w wr) (fun i _ => xs.length - (intOf i).toNat)
  case atStart => exact ⟨0, Nat.zero_le _, rfl, Below.refl _ _⟩
  case round =>
    obtain ⟨k, hk, rfl, hbw⟩ := hrel
    have hsz := hbw.size
    have HB := Lib.hid hbw
    clear hbw
    by_cases hlt2 : k < xs.length
    · obtain ⟨b, off, rfl, hb, c0⟩ := (hv.below (HB.out.mono hB)).it hlt2
      obtain ⟨b', off', rfl, hb', d0⟩ := (hv'.below (HB.out.mono hB)).it hlt2
      obtain ⟨x, ex⟩ : ∃ x, x = xs[k] := ⟨_, rfl⟩
      rw [← ex] at c0 d0
      clear ex
      go_wp2_with fail
      go_still_tail 8, (by kernel_rfl)
      go_wp2_with fail
      go_roundw
      case rel => exact ⟨k + 1, by omega, by go_num, HB.out.drew⟩
      case measure => simp [intOf]; omega
    · obtain rfl : k = xs.length := by omega
      go_wp2_with fail
      go_ret
      exact ⟨rfl, HB.out⟩
set_option maxRecDepth 100000 in
set_option maxHeartbeats 1000000 in
theorem gpTexts_any (xs : List ByteArray) (v v' : Value) (B : Nat) (w : World) (hv : kStr.Rd B w v xs) (hv' : kStr.Rd B w v' xs) (hB : B ≤ w.heap.size) :
    Calls Try.prog 59 #[v, v'] w fun e w' => e = .returned (.bool true) ∧ Below w.heap.size w w' := by
  obtain ⟨p, cap, rfl⟩ := hv.form
  obtain ⟨p', cap', rfl⟩ := hv'.form
  obtain ⟨_, _, hm⟩ := hv.max
  obtain ⟨_, _, hm'⟩ := hv'.max
  have hl := hv.max.2.1
  unfold maxLen at hm hm'
  have HV := Lib.hid hv
  have HV' := Lib.hid hv'
  clear hv hv'
  go_enter Try.func59, Try.ntmps59
  go_wp2_with fail
  go_loopw [5] (fun i wr => ∃ k : Nat, k ≤ xs.length ∧ i = .int .i64 k ∧ Below w.heap.size w wr) (fun i _ => xs.length - (intOf i).toNat)
  case atStart => exact ⟨0, Nat.zero_le _, rfl, Below.refl _ _⟩
  case round =>
    obtain ⟨k, hk, rfl, hbw⟩ := hrel
    have hsz := hbw.size
    have HB := Lib.hid hbw
    clear hbw
    by_cases hlt2 : k < xs.length
    · obtain ⟨b, off, rfl, hb, c0⟩ := kStr_get (HV.out.to (HB.out.mono hB) (Nat.le_refl _)) hlt2
      obtain ⟨b', off', rfl, hb', d0⟩ := kStr_get (HV'.out.to (HB.out.mono hB) (Nat.le_refl _)) hlt2
      obtain ⟨x, ex⟩ : ∃ x, x = xs[k] := ⟨_, rfl⟩
      rw [← ex] at c0 d0
      clear ex
      go_wp2_with fail
      go_still_tail 8, (by kernel_rfl)
      go_wp2_with fail
      go_roundw
      case rel => exact ⟨k + 1, by omega, by go_num, HB.out.drew⟩
      case measure => simp [intOf]; omega
    · obtain rfl : k = xs.length := by omega
      go_wp2_with fail
      go_ret
      exact ⟨rfl, HB.out⟩

set_option maxRecDepth 100000 in
set_option maxHeartbeats 1000000 in
theorem gpLists_any (xs : List (List Int)) (v v' : Value) (B : Nat) (w : World) (hv : kRow.Rd B w v xs) (hv' : kRow.Rd B w v' xs) (hB : B ≤ w.heap.size) :
    Calls Try.prog 28 #[v, v'] w fun e w' => e = .returned (.bool true) ∧ Below w.heap.size w w' := by
  obtain ⟨p, cap, rfl⟩ := hv.form
  obtain ⟨p', cap', rfl⟩ := hv'.form
  obtain ⟨_, _, hm⟩ := hv.max
  obtain ⟨_, _, hm'⟩ := hv'.max
  have hl := hv.max.2.1
  unfold maxLen at hm hm'
  have HV := Lib.hid hv
  have HV' := Lib.hid hv'
  clear hv hv'
  go_enter Try.func28, Try.ntmps28
  go_wp2_with fail
  go_loopw [5] (fun i wr => ∃ k : Nat, k ≤ xs.length ∧ i = .int .i64 k ∧ Below w.heap.size w wr) (fun i _ => xs.length - (intOf i).toNat)
  case atStart => exact ⟨0, Nat.zero_le _, rfl, Below.refl _ _⟩
  case round =>
    obtain ⟨k, hk, rfl, hbw⟩ := hrel
    have hsz := hbw.size
    have HB := Lib.hid hbw
    clear hbw
    by_cases hlt2 : k < xs.length
    · obtain ⟨b, off, q, c, rfl, hb, c0, hin⟩ := kRow_get (HV.out.to (HB.out.mono hB) (Nat.le_refl _)) hlt2
      obtain ⟨b', off', q', c', rfl, hb', d0, hin'⟩ := kRow_get (HV'.out.to (HB.out.mono hB) (Nat.le_refl _)) hlt2
      obtain ⟨x, ex⟩ : ∃ x, x = xs[k] := ⟨_, rfl⟩
      rw [← ex] at c0 d0 hin hin'
      have H1 := Lib.hid (hin.below (Below.refl B wr).drew)
      have H2 := Lib.hid (hin'.below (Below.refl B wr).drew)
      clear ex hin hin'
      go_wp2_with fail
      go_still_tail 8, (by kernel_rfl)
      go_wp2_with fail
      refine (gpInts_any x _ _ B _ H1.out H2.out (by show B ≤ wr.heap.size; omega)).mono ?_
      rintro en w' ⟨rfl, hb1⟩
      have HB1 := Lib.hid (HB.out.drew.trans (hb1.mono hsz))
      clear hb1
      go_wp2_with fail
      go_roundw
      case rel => exact ⟨k + 1, by omega, by go_num, HB1.out⟩
      case measure => simp [intOf]; omega
    · obtain rfl : k = xs.length := by omega
      go_wp2_with fail
      go_ret
      exact ⟨rfl, HB.out⟩

set_option maxHeartbeats 1000000 in
theorem gpTable_any (g : Tb) (v v' : Value) (B : Nat) (w : World) (hg : g.At B w v) (hg' : g.At B w v') (hB : B ≤ w.heap.size) :
    Calls Try.prog 21 #[v, v'] w fun e w' => e = .returned (.bool true) ∧ Below w.heap.size w w' := by
  obtain ⟨a, b, rfl, ha, hb⟩ := hg
  obtain ⟨a', b', rfl, ha', hb'⟩ := hg'
  go_enter Try.func21, Try.ntmps21
  go_wp2_with fail
  have HW := Lib.hid (((Below.refl B w).alloc hB (.cells #[a, b] 33)).alloc (by simp; omega) (.cells #[a', b'] 33))
  refine (gpTexts_any g.cs a a' B _ (ha.to HW.out (Nat.le_refl _)) (ha'.to HW.out (Nat.le_refl _)) (by simp; omega)).mono ?_
  rintro e w1 ⟨rfl, hb1⟩
  have hs1 : w.heap.size + 2 ≤ w1.heap.size := by have := hb1.size; simp at this; omega
  have p1 : w1.cell? ⟨w.heap.size, 1, none⟩ = some b := (hb1.cell (by simp; omega)).trans (by simp [go_sem])
  have q1 : w1.cell? ⟨w.heap.size + 1, 1, none⟩ = some b' := (hb1.cell (by simp)).trans (by simp [go_sem])
  have HB1 := Lib.hid ((((Below.refl w.heap.size w).alloc (by simp) (.cells #[a, b] 33)).alloc (by simp) (.cells #[a', b'] 33)).trans (hb1.mono (by simp; omega)))
  clear hb1
  go_wp2_with fail
  refine (gpLists_any g.rs b b' B _ (hb.to (HB1.out.mono hB) (Nat.le_refl _)) (hb'.to (HB1.out.mono hB) (Nat.le_refl _)) (by omega)).mono ?_
  rintro e w2 ⟨rfl, hb2⟩
  have HB2 := Lib.hid (HB1.out.trans (hb2.mono (by omega)))
  clear hb2
  go_wp2_with fail
  go_ret
  exact ⟨rfl, HB2.out⟩

end Go.Proofs.Ytfdkmngkpihpbaa
namespace Go.Proofs.Ytfdkmngkpihpbaa
open Go.ChangeShapes Go.WideShapes Go.Deep Go.RowKit Go.Joins

section
variable {H : Type} {enc : TypeId × Value → H} {w : World} {base : Nat} {spare : Nat → Bool} {held : Bool}

theorem open_i64 {t : TypeId} {fuel : Nat} {u : Value} {y : DataW H × List MemPlace} (ht : Try.prog.underlying t = some (.int .i64)) (h : DataW.trod enc Try.prog w base spare held fuel t [u] = some y) : ∃ n, u = .int .i64 n ∧ I64 n := by
  obtain ⟨n, hn, _, hw⟩ := DataW.trod_int ht h
  simp at hn
  refine ⟨n, hn, ?_⟩
  have := hw
  simp [Lit.wf, IntKind.min, IntKind.max, IntKind.signed, IntKind.bits] at this
  unfold I64; omega
theorem open_str {t : TypeId} {fuel : Nat} {u : Value} {y : DataW H × List MemPlace} (ht : Try.prog.underlying t = some .string) (h : DataW.trod enc Try.prog w base spare held fuel t [u] = some y) : ∃ s : ByteArray, u = .string s ∧ s.size ≤ maxLen := by
  obtain ⟨s, hs, _, hw⟩ := DataW.trod_string ht h
  simp at hs
  exact ⟨s, hs, hw⟩

end
end Go.Proofs.Ytfdkmngkpihpbaa
namespace Go.Proofs.Ytfdkmngkpihpbaa
open Go.RowKit

structure K6 where
  a : Int
  b : Int
  c : Int
  d : Int
  e : Int
  f : Int
def endV (x : K6) : Value := .agg #[.int .i64 x.a, .int .i64 x.b, .int .i64 x.c, .int .i64 x.d, .int .i64 x.e, .int .i64 x.f]
theorem endV_inj {x y : K6} (h : endV x = endV y) : x = y := by
  obtain ⟨a, b, c, d, e, f⟩ := x
  obtain ⟨a', b', c', d', e', f'⟩ := y
  simp [endV] at h
  obtain ⟨rfl, rfl, rfl, rfl, rfl, rfl⟩ := h
  rfl
def K6.Ok (x : K6) : Prop := I64 x.a ∧ I64 x.b ∧ I64 x.c ∧ I64 x.d ∧ I64 x.e ∧ I64 x.f
theorem kEnd : WideMaps.KeyLaw Try.prog 81 := deep_law (m := 8) (by omega) (by kernel_rfl) (by kernel_rfl) (by kernel_rfl)
theorem wf_i64 {n : Int} (h : I64 n) : (Lit.int .i64 n).wf = true := by
  unfold I64 at h
  simp [Lit.wf, IntKind.min, IntKind.max, IntKind.signed, IntKind.bits]; omega
theorem key_end {x : K6} (h : x.Ok) : ∃ l, keyOf Try.prog 81 (endV x) = some l := by
  have hk : Try.prog.keyType 81 = true := by kernel_rfl
  have hc : Try.prog.cellsOf 81 = 6 := by kernel_rfl
  have hi : Try.prog.cellsOf 3 = 1 := by kernel_rfl
  have hs : Try.prog.types.size ≠ 0 := by
    have : (Try.prog.types.size == 0) = false := by kernel_rfl
    intro h0; rw [h0] at this; simp at this
  obtain ⟨m, hm⟩ := Nat.exists_eq_succ_of_ne_zero hs
  obtain ⟨h1, h2, h3, h4, h5, h6⟩ := h
  have w1 := wf_i64 h1
  have w2 := wf_i64 h2
  have w3 := wf_i64 h3
  have w4 := wf_i64 h4
  have w5 := wf_i64 h5
  have w6 := wf_i64 h6
  have hu := Try.underlying81
  have hq := Try.underlying3
  unfold keyOf
  simp only [hu]
  rw [if_pos (by simp [hk, Value.formed, endV, hu, hc]), hm]
  unfold Program.keyLits
  simp only [hu, endV, Value.cells]
  rw [if_pos (by rw [hc]; rfl), show List.range 6 = [0, 1, 2, 3, 4, 5] from rfl]
  simp [Program.keyLits, hi, hq, w1, w2, w3, w4, w5, w6]
/-- Entries at the arrays S, each with g of its pair. -/
structure IM (es : Array MapEntry) (clock : Nat) (S : List (K6)) (g : K6 → Value) : Prop where
  keys : ∀ (i : Nat) (x : MapEntry), es.toList[i]? = some x → ∃ y ∈ S, x.key = endV y ∧ x.val = g y
  dom : ∀ y ∈ S, ∃ (i : Nat) (x : MapEntry), es.toList[i]? = some x ∧ x.key = endV y
  inj : ∀ (i j : Nat) (x x' : MapEntry), es.toList[i]? = some x → es.toList[j]? = some x' → x.key = x'.key → i = j
  born : ∀ (i : Nat) (x : MapEntry), es.toList[i]? = some x → x.born < clock
  binj : ∀ (i j : Nat) (x x' : MapEntry), es.toList[i]? = some x → es.toList[j]? = some x' → x.born = x'.born → i = j
  ok : ∀ y ∈ S, y.Ok
theorem IM.empty (g : K6 → Value) : IM #[] 0 [] g := ⟨by simp, by simp, by simp, by simp, by simp, by simp⟩
def Pairs64 (x : K6) : Prop := x.Ok
section
variable {es : Array MapEntry} {clock : Nat} {S : List (K6)} {g : K6 → Value}
theorem IM.keysOk (h : IM es clock S g) : ∀ e ∈ es.toList, ∃ l, keyOf Try.prog 81 e.key = some l := fun e he => by
  obtain ⟨i, hi, rfl⟩ := List.getElem_of_mem he
  obtain ⟨y, hy, hk, _⟩ := h.keys i _ (List.getElem?_eq_getElem hi)
  rw [hk]
  exact key_end (h.ok y hy)
theorem IM.find (h : IM es clock S g) (w : World) {x : K6} (hx : Pairs64 x) :
    ((Instr.findKey 81 (endV x) es.toList).run Try.prog w = .ok none w ∧ x ∉ S) ∨ ∃ (j : Nat) (e : MapEntry), (Instr.findKey 81 (endV x) es.toList).run Try.prog w = .ok (some (j, g x)) w ∧ es.toList[j]? = some e ∧ e.key = endV x ∧ e.val = g x ∧ x ∈ S := by
  obtain ⟨l, hl⟩ := key_end hx
  rcases kEnd.find w hl es.toList h.keysOk with ⟨h1, h2⟩ | ⟨j, e, h1, h2, h3⟩
  · refine .inl ⟨h1, fun hm => ?_⟩
    obtain ⟨i, e, he, hk⟩ := h.dom x hm
    exact h2 e (List.mem_of_getElem? he) hk
  · obtain ⟨y, hy, hk, hv⟩ := h.keys j e h2
    have hxy : y = x := endV_inj (hk.symm.trans h3)
    subst hxy
    exact .inr ⟨j, e, by rw [← hv]; exact h1, h2, h3, hv, hy⟩
end
/-- Block b is a map with entries at the arrays S. -/
def IMap (w : World) (b : Nat) (S : List (K6)) (g : K6 → Value) : Prop := ∃ es clock, w.heap[b]? = some (.map es clock) ∧ IM es clock S g
theorem IMap.lt {w : World} {b : Nat} {S : List (K6)} {g : K6 → Value} (h : IMap w b S g) : b < w.heap.size := by
  obtain ⟨es, c, h, _⟩ := h; exact (Array.getElem?_eq_some_iff.1 h).1
theorem IMap.made (w : World) (g : K6 → Value) : IMap (w.alloc (.map #[] 0)) w.heap.size [] g := ⟨#[], 0, (MapKept.heap_alloc w _).1, IM.empty g⟩
theorem IMap.chg {w w' : World} {b : Nat} {S : List (K6)} {g : K6 → Value} {G : List Nat} (h : IMap w b S g) (hc : Chg G w w') (hb : b ∉ G) : IMap w' b S g := by
  have hl := h.lt
  obtain ⟨es, c, h1, h2⟩ := h
  exact ⟨es, c, (hc.block b hl hb).trans h1, h2⟩
theorem chg_map {w : World} {b : Nat} {es : Array MapEntry} {c : Nat} (hb : w.heap[b]? = some (.map es c)) (o : Obj) : Chg [b] w { w with heap := w.heap.setIfInBounds b o } :=
  ⟨rfl, rfl, rfl, by simp, fun k _ hk => (MapKept.heap_set hb).2 k (fun e => hk (by simp [e]))⟩
section
variable {t e : TypeId} {z : Value} {w : World} {b : Nat} {S : List (K6)} {g : K6 → Value}
open Classical in
/-- What a lookup finds. -/
noncomputable def atM (S : List (K6)) (g : K6 → Value) (z : Value) (x : K6) : Value := if x ∈ S then g x else z
theorem run_lookupI (ht : Try.prog.underlying t = some (.map 81 e)) (hz : ∀ w, (zeroValue e).run Try.prog w = .ok z w) (h : IMap w b S g) {x : K6} (hx : Pairs64 x) :
    (Instr.lookup t (.map (some b)) (endV x) false).run Try.prog w = .ok (atM S g z x) w := by
  obtain ⟨es, c, hb, hE⟩ := h
  obtain ⟨l, hl⟩ := key_end hx
  have hc := kEnd.check w es.isEmpty hl
  rcases hE.find w hx with ⟨h1, h2⟩ | ⟨j, e0, h1, _, _, _, h2⟩
  · simp [Instr.lookup, run_underlying ht, MapKept.run_getObj_map hb, hc, h1, hz, Result.andThen, atM, h2]
  · simp [Instr.lookup, run_underlying ht, MapKept.run_getObj_map hb, hc, h1, Result.andThen, atM, h2]
open Classical in
noncomputable def updM (g : K6 → Value) (x : K6) (v : Value) : K6 → Value := fun y => if y = x then v else g y
theorem run_lookup2I (ht : Try.prog.underlying t = some (.map 81 e)) (hz : ∀ w, (zeroValue e).run Try.prog w = .ok z w) (h : IMap w b S g) {x : K6} (hx : Pairs64 x) :
    ((Instr.lookup t (.map (some b)) (endV x) true).run Try.prog w = .ok (.tuple #[z, .bool false]) w ∧ x ∉ S) ∨ ((Instr.lookup t (.map (some b)) (endV x) true).run Try.prog w = .ok (.tuple #[g x, .bool true]) w ∧ x ∈ S) := by
  obtain ⟨es, c, hb, hE⟩ := h
  obtain ⟨l, hl⟩ := key_end hx
  have hc := kEnd.check w es.isEmpty hl
  rcases hE.find w hx with ⟨h1, h2⟩ | ⟨j, e0, h1, _, _, _, h2⟩
  · exact .inl ⟨by simp [Instr.lookup, run_underlying ht, MapKept.run_getObj_map hb, hc, h1, hz, Result.andThen], h2⟩
  · exact .inr ⟨by simp [Instr.lookup, run_underlying ht, MapKept.run_getObj_map hb, hc, h1, Result.andThen], h2⟩
theorem IM.push {es : Array MapEntry} {c : Nat} (hE : IM es c S g) {x : K6} (hx : Pairs64 x) (h2 : x ∉ S) (v : Value) : IM (es.push ⟨endV x, v, c⟩) (c + 1) (x :: S) (updM g x v) := by
  have hg : ∀ (i : Nat) (y : MapEntry), (es.push ⟨endV x, v, c⟩).toList[i]? = some y → es.toList[i]? = some y ∨ (i = es.toList.length ∧ y = ⟨endV x, v, c⟩) := fun i y hy => by
    rw [Array.toList_push, List.getElem?_append] at hy
    split at hy
    · exact .inl hy
    · rename_i hge
      have hi : i - es.toList.length = 0 := by
        have := (List.getElem?_eq_some_iff.1 hy).1; simp at this; omega
      rw [hi] at hy
      simp at hy
      exact .inr ⟨by omega, hy.symm⟩
  have hlast : (es.push ⟨endV x, v, c⟩).toList[es.toList.length]? = some ⟨endV x, v, c⟩ := by simp
  have hold : ∀ (i : Nat) (y : MapEntry), es.toList[i]? = some y → (es.push ⟨endV x, v, c⟩).toList[i]? = some y := fun i y hy => by
    rw [Array.toList_push, List.getElem?_append_left (List.getElem?_eq_some_iff.1 hy).1]; exact hy
  refine ⟨?_, ?_, ?_, ?_, ?_, ?_⟩
  · intro i y hy
    rcases hg i y hy with h | ⟨_, rfl⟩
    · obtain ⟨q, hq, e1, e2⟩ := hE.keys i y h
      refine ⟨q, List.mem_cons_of_mem _ hq, e1, ?_⟩
      have hne : q ≠ x := fun e => h2 (e ▸ hq)
      simp [updM, hne, e2]
    · exact ⟨x, by simp, rfl, by simp [updM]⟩
  · intro q hq
    rcases List.mem_cons.1 hq with rfl | hq
    · exact ⟨_, _, hlast, rfl⟩
    · obtain ⟨i, y, e1, e2⟩ := hE.dom q hq
      exact ⟨i, y, hold i y e1, e2⟩
  · intro i j y y' hy hy' he
    rcases hg i y hy with h | ⟨rfl, rfl⟩
    · rcases hg j y' hy' with h' | ⟨rfl, rfl⟩
      · exact hE.inj i j y y' h h' he
      · obtain ⟨q, hq, e1, _⟩ := hE.keys i y h
        exact absurd (endV_inj (e1.symm.trans he) ▸ hq) h2
    · rcases hg j y' hy' with h' | ⟨rfl, rfl⟩
      · obtain ⟨q, hq, e1, _⟩ := hE.keys j y' h'
        exact absurd (endV_inj (e1.symm.trans he.symm) ▸ hq) h2
      · rfl
  · intro i y hy
    rcases hg i y hy with h | ⟨_, rfl⟩
    · have := hE.born i y h; omega
    · exact Nat.lt_succ_self c
  · intro i j y y' hy hy' he
    rcases hg i y hy with h | ⟨rfl, rfl⟩
    · rcases hg j y' hy' with h' | ⟨rfl, rfl⟩
      · exact hE.binj i j y y' h h' he
      · have := hE.born i y h; simp at he; omega
    · rcases hg j y' hy' with h' | ⟨rfl, rfl⟩
      · have := hE.born j y' h'; simp at he; omega
      · rfl
  · intro q hq
    rcases List.mem_cons.1 hq with rfl | hq
    · exact hx
    · exact hE.ok q hq
theorem run_updateI (ht : Try.prog.underlying t = some (.map 81 e)) (h : IMap w b S g) {x : K6} (hx : Pairs64 x) (hn : x ∉ S) (v : Value) :
    ∃ w1, (Instr.mapUpdate t (.map (some b)) (endV x) v).run Try.prog w = .ok () w1 ∧ IMap w1 b (x :: S) (updM g x v) ∧ Chg [b] w w1 := by
  obtain ⟨es, c, hb, hE⟩ := h
  obtain ⟨l, hl⟩ := key_end hx
  have hc := kEnd.check w false hl
  rcases hE.find w hx with ⟨h1, _⟩ | ⟨_, _, _, _, _, _, h2⟩
  · refine ⟨{ w with heap := w.heap.setIfInBounds b (.map (es.push ⟨endV x, v, c⟩) (c + 1)) }, ?_, ⟨_, _, (MapKept.heap_set hb).1, hE.push hx hn v⟩, chg_map hb _⟩
    simp [Instr.mapUpdate, run_underlying ht, MapKept.run_getObj_map hb, hc, h1, MapKept.run_setObj_map _ hb, Result.andThen]
  · exact absurd h2 hn
end
end Go.Proofs.Ytfdkmngkpihpbaa
namespace Go.Proofs.Ytfdkmngkpihpbaa
open Go.RowKit

def intE (x y : Int) : Bool := x == y
def wkShape (x : Wk) : Bool := decide (x.ns.length = x.es.length + 1) && decide (x.es.length ≤ 8)
theorem wkShape_iff {x : Wk} : wkShape x = true ↔ x.ns.length = x.es.length + 1 ∧ x.es.length ≤ 8 := by simp [wkShape]
theorem wkShape_not {x : Wk} : wkShape x = false ↔ ¬ (x.ns.length = x.es.length + 1 ∧ x.es.length ≤ 8) := by rw [← wkShape_iff]; simp
def wkEq (a b : Wk) : Bool := eqL intE a.ns b.ns && eqL intE a.es b.es

/-- None of the first k numbers stands further ahead in the list. -/
def Once (xs : List Int) (k : Nat) : Prop := ∀ (i j : Nat) (hi : i < xs.length) (hj : j < i), i < k → xs[j] ≠ xs[i]
theorem Once.zero (xs : List Int) : Once xs 0 := fun _ _ _ _ h => by omega
theorem Once.succ {xs : List Int} {k : Nat} (h : Once xs k) (hn : ∀ (j : Nat) (hk : k < xs.length) (hj : j < k), xs[j] ≠ xs[k]) : Once xs (k + 1) := by
  intro i j hi hj hik
  by_cases e : i = k
  · subst e; exact hn j hi hj
  · exact h i j hi hj (by omega)
def onceB (xs : List Int) : Bool := decide xs.Nodup
theorem onceB_yes {xs : List Int} {k : Nat} (h : Once xs k) (hk : xs.length ≤ k) : onceB xs = true := by
  unfold onceB
  rw [decide_eq_true_iff, List.Nodup, List.pairwise_iff_getElem]
  intro i j hi hj hij
  exact h j i hj hij (by omega)
theorem onceB_no {xs : List Int} {i j : Nat} (hi : i < xs.length) (hj : j < i) (h : xs[j] = xs[i]) : onceB xs = false := by
  unfold onceB
  rw [decide_eq_false_iff_not, List.Nodup, List.pairwise_iff_getElem]
  intro hn
  exact hn j i (by omega) hi hj h

def modeB (x : Wk) (m : Int) : Bool :=
  if m = 1 then true else if m = 2 then onceB x.es else if m = 3 then onceB x.ns else if m = 4 then onceB (x.ns.drop 1) && onceB (x.ns.take x.es.length) else false
def wkMode (x : Wk) (m : Int) : Bool := wkShape x && modeB x m
/-- A walk's nodes, but for the first one and the last one, are there once: both readings. -/
theorem simple_iff {x : Wk} (h : wkShape x = true) (h0 : 0 < x.ns.length) (h1 : x.ns.length - 1 < x.ns.length) : (onceB (x.ns.drop 1) && onceB (x.ns.take x.es.length)) = if 1 < x.ns.length ∧ x.ns[0] = x.ns[x.ns.length - 1] then onceB (x.ns.drop 1) else onceB x.ns := by
  obtain ⟨hs, _⟩ := wkShape_iff.1 h
  obtain ⟨ns, es⟩ := x
  simp only at *
  unfold onceB
  have key : es.length = ns.length - 1 := by omega
  rw [key]
  have hnd : ∀ l : List Int, l.Nodup ↔ ∀ (i j : Nat) (hi : i < l.length) (hj : j < l.length), i < j → l[i] ≠ l[j] := fun l => by rw [List.Nodup, List.pairwise_iff_getElem]
  by_cases hc : 1 < ns.length ∧ ns[0] = ns[ns.length - 1]
  · rw [if_pos hc]
    by_cases ht : (ns.drop 1).Nodup
    · have hi : (ns.take (ns.length - 1)).Nodup := by
        rw [hnd] at ht ⊢
        intro i j hi hj hij
        simp only [List.length_take, List.length_drop] at hi hj ht
        rw [List.getElem_take, List.getElem_take]
        by_cases e : i = 0
        · subst e
          have := ht (j - 1) (ns.length - 2) (by omega) (by omega) (by omega)
          rw [List.getElem_drop, List.getElem_drop] at this
          simp only [show 1 + (j - 1) = j by omega, show 1 + (ns.length - 2) = ns.length - 1 by omega] at this
          rw [hc.2]; exact fun e => this e.symm
        · have := ht (i - 1) (j - 1) (by omega) (by omega) (by omega)
          rw [List.getElem_drop, List.getElem_drop] at this
          simp only [show 1 + (j - 1) = j by omega, show 1 + (i - 1) = i by omega] at this
          exact this
      rw [decide_eq_true ht, decide_eq_true hi]; rfl
    · rw [decide_eq_false ht]; rfl
  · rw [if_neg hc]
    by_cases ha : ns.Nodup
    · have h1 : (ns.drop 1).Nodup := ha.sublist (List.drop_sublist 1 ns)
      have h2 : (ns.take (ns.length - 1)).Nodup := ha.sublist (List.take_sublist _ ns)
      rw [decide_eq_true ha, decide_eq_true h1, decide_eq_true h2]; rfl
    · have : ¬ ((ns.drop 1).Nodup ∧ (ns.take (ns.length - 1)).Nodup) := by
        rintro ⟨ht, hi⟩
        apply ha
        rw [hnd] at ht hi ⊢
        intro i j hli hlj hij
        simp only [List.length_take, List.length_drop] at ht hi
        by_cases e : i = 0
        · subst e
          by_cases e2 : j = ns.length - 1
          · subst e2; exact fun e => hc ⟨by omega, e⟩
          · have := hi 0 j (by omega) (by omega) hij
            rw [List.getElem_take, List.getElem_take] at this
            exact this
        · have := ht (i - 1) (j - 1) (by omega) (by omega) (by omega)
          rw [List.getElem_drop, List.getElem_drop] at this
          simp only [show 1 + (j - 1) = j by omega, show 1 + (i - 1) = i by omega] at this
          exact this
      rw [decide_eq_false ha]
      exact Bool.eq_false_iff.2 fun hh => this (by simpa only [Bool.and_eq_true, decide_eq_true_eq] using hh)

/-- The order of two lists: -1, 0, 1. -/
def cmpL : List Int → List Int → Int
  | [], [] => 0
  | [], _ :: _ => -1
  | _ :: _, [] => 1
  | x :: xs, y :: ys => if x < y then -1 else if y < x then 1 else cmpL xs ys
theorem cmpL_cases : ∀ xs ys, cmpL xs ys = -1 ∨ cmpL xs ys = 0 ∨ cmpL xs ys = 1
  | [], [] => by simp [cmpL]
  | [], _ :: _ => by simp [cmpL]
  | _ :: _, [] => by simp [cmpL]
  | x :: xs, y :: ys => by
    unfold cmpL
    split
    · simp
    · split
      · simp
      · exact cmpL_cases xs ys
/-- The first k places agree. -/
def Alike (xs ys : List Int) (k : Nat) : Prop := cmpL xs ys = cmpL (xs.drop k) (ys.drop k)
theorem Alike.zero (xs ys : List Int) : Alike xs ys 0 := by simp [Alike]
theorem Alike.step {xs ys : List Int} {k : Nat} (h : Alike xs ys k) (h1 : k < xs.length) (h2 : k < ys.length) :
    cmpL xs ys = if xs[k] < ys[k] then -1 else if ys[k] < xs[k] then 1 else cmpL (xs.drop (k + 1)) (ys.drop (k + 1)) := by
  unfold Alike at h
  rw [h, List.drop_eq_getElem_cons h1, List.drop_eq_getElem_cons h2]
  rfl
theorem Alike.lt {xs ys : List Int} {k : Nat} (h : Alike xs ys k) (h1 : k < xs.length) (h2 : k < ys.length) (hc : xs[k] < ys[k]) : cmpL xs ys = -1 := by rw [h.step h1 h2, if_pos hc]
theorem Alike.gt {xs ys : List Int} {k : Nat} (h : Alike xs ys k) (h1 : k < xs.length) (h2 : k < ys.length) (hc : ys[k] < xs[k]) : cmpL xs ys = 1 := by rw [h.step h1 h2, if_neg (by omega), if_pos hc]
theorem Alike.eq {xs ys : List Int} {k : Nat} (h : Alike xs ys k) (h1 : k < xs.length) (h2 : k < ys.length) (hc : ¬ xs[k] < ys[k]) (hd : ¬ ys[k] < xs[k]) : Alike xs ys (k + 1) := by
  unfold Alike; rw [h.step h1 h2, if_neg hc, if_neg hd]
theorem Alike.long {xs ys : List Int} {k : Nat} (h : Alike xs ys k) (h1 : k < xs.length) (h2 : ys.length ≤ k) : cmpL xs ys = 1 := by
  unfold Alike at h
  rw [h, List.drop_eq_getElem_cons h1, List.drop_of_length_le h2]; rfl
theorem Alike.short {xs ys : List Int} {k : Nat} (h : Alike xs ys k) (h1 : xs.length ≤ k) (h2 : k < ys.length) : cmpL xs ys = -1 := by
  unfold Alike at h
  rw [h, List.drop_eq_getElem_cons h2, List.drop_of_length_le h1]; rfl
theorem Alike.same {xs ys : List Int} {k : Nat} (h : Alike xs ys k) (h1 : xs.length ≤ k) (h2 : ys.length ≤ k) : cmpL xs ys = 0 := by
  unfold Alike at h
  rw [h, List.drop_of_length_le h1, List.drop_of_length_le h2]; rfl
def cmpI (a b : Int) : Int := if a < b then -1 else if b < a then 1 else 0
/-- The order of two walks: -1, 0, 1. -/
def cmpW (a b : Wk) : Int :=
  if cmpI a.es.length b.es.length ≠ 0 then cmpI a.es.length b.es.length else if cmpL a.ns b.ns ≠ 0 then cmpL a.ns b.ns else cmpL a.es b.es
def wkBefore (a b : Wk) : Bool := decide (cmpW a b < 0)

def wkTurn (x : Wk) : Wk := ⟨x.ns.reverse, x.es.reverse⟩
def joinOk (a b : Wk) : Bool := wkShape a && wkShape b && (a.ns.getLast? == b.ns.head?) && decide (a.es.length + b.es.length ≤ 8)
def wkJoin (a b : Wk) : Wk := if joinOk a b then ⟨a.ns ++ b.ns.drop 1, a.es ++ b.es⟩ else ⟨[], []⟩
end Go.Proofs.Ytfdkmngkpihpbaa
namespace Go.Proofs.Ytfdkmngkpihpbaa
open Go.RowKit

theorem two_more {B : Nat} {w : World} (hB : B ≤ w.heap.size) (o o' : Obj) : Below B w ((w.alloc o).alloc o') := ((Below.refl B w).alloc hB _).alloc (by simp; omega) _

set_option maxRecDepth 100000 in
set_option maxHeartbeats 1000000 in
theorem l5Ints_any (xs ys : List Int) (v v' : Value) (B : Nat) (w : World) (hv : Sl 1 intCells B w v xs) (hv' : Sl 1 intCells B w v' ys) (hB : B ≤ w.heap.size) :
    Calls Try.prog 58 #[v, v'] w fun e w' => e = .returned (.bool (eqL intE xs ys)) ∧ Below w.heap.size w w' := by
  obtain ⟨p, cap, rfl⟩ := hv.form
  obtain ⟨p', cap', rfl⟩ := hv'.form
  have hm := hv.max
  have hm' := hv'.max
  unfold maxLen at hm hm'
  by_cases hlen : xs.length = ys.length
  · have q1 : ((xs.length : Int) != (ys.length : Int)) = false := by rw [hlen]; simp
    have HL := Lib.hid hlen
    have hl1 : xs.length ≤ ys.length := by omega
    have hl2 : ys.length ≤ xs.length := by omega
    clear hlen
    go_enter Try.func58, Try.ntmps58
    go_wp2_with fail
    go_loopw [5] (fun i wr => ∃ k : Nat, k ≤ xs.length ∧ i = .int .i64 k ∧ AllE intE xs ys k ∧ Below w.heap.size w wr) (fun i _ => xs.length - (intOf i).toNat)
    case atStart => exact ⟨0, Nat.zero_le _, rfl, AllE.zero _ _ _, Below.refl _ _⟩
    case round =>
      obtain ⟨k, hk, rfl, ha, hbw⟩ := hrel
      have hsz := hbw.size
      have HB := Lib.hid hbw
      clear hbw
      by_cases hlt2 : k < xs.length
      · have hlt3 : k < ys.length := by omega
        obtain ⟨b, off, rfl, hb, c0⟩ := (hv.below (HB.out.mono hB)).it hlt2
        obtain ⟨b', off', rfl, hb', d0⟩ := (hv'.below (HB.out.mono hB)).it hlt3
        have HA := Lib.hid ha
        have hgood := Lib.hid (fun h => ha.succ (f := intE) hlt2 hlt3 h)
        have hbad := Lib.hid (fun h => eqL_bad (f := intE) (xs := xs) (ys := ys) k hlt2 hlt3 h)
        clear ha
        obtain ⟨x, ex⟩ : ∃ x, x = xs[k] := ⟨_, rfl⟩
        obtain ⟨y, ey⟩ : ∃ y, y = ys[k] := ⟨_, rfl⟩
        rw [← ex, ← ey] at hgood hbad
        rw [← ex] at c0
        rw [← ey] at d0
        clear ex ey
        by_cases hE : x = y
        · have HG := Lib.hid (hgood.out (by unfold intE; simpa using hE))
          subst hE
          go_wp2_with fail
          go_still_tail 8, (by kernel_rfl)
          go_wp2_with fail
          go_roundw
          case rel => exact ⟨k + 1, by omega, by go_num, HG.out, HB.out.drew⟩
          case measure => simp [intOf]; omega
        · have hq : (x != y) = true := by simpa using hE
          have HG := Lib.hid (hbad.out (by unfold intE; simpa using hE))
          clear hE
          go_wp2_with fail
          go_still_tail 8, (by kernel_rfl)
          go_wp2_with fail
          go_ret
          exact ⟨ret_bool (by rw [HG.out]), HB.out.drew⟩
      · have HG := Lib.hid (ha.full (by omega) HL.out)
        go_wp2_with fail
        go_ret
        exact ⟨ret_bool (by rw [HG.out]), HB.out⟩
  · have q1 : ((xs.length : Int) != (ys.length : Int)) = true := by simp; omega
    have HL := Lib.hid (eqL_len (f := intE) hlen)
    clear hlen
    go_enter Try.func58, Try.ntmps58
    go_wp2_with fail
    go_ret
    exact ⟨ret_bool (by rw [HL.out]), Below.refl _ _⟩
set_option maxHeartbeats 400000 in
theorem hasShape_any (x : Wk) (v : Value) (B : Nat) (w : World) (hx : x.At B w v) (hn : x.need ≤ 1048576) :
    Calls Try.prog 52 #[v] w fun e w' => e = .returned (.bool (wkShape x)) ∧ Below w.heap.size w w' := by
  obtain ⟨a, b, rfl, ha, hb⟩ := hx
  obtain ⟨p, cap, rfl⟩ := ha.form
  obtain ⟨q, cq, rfl⟩ := hb.form
  have hm := ha.max
  have hm2 := hb.max
  unfold maxLen at hm hm2
  have hes : x.es.length ≤ 1048576 := by unfold Wk.need at hn; omega
  have hns : x.ns.length ≤ 1048576 := by unfold Wk.need at hn; omega
  clear ha hb hn
  by_cases h1 : x.ns.length = x.es.length + 1
  · by_cases h2 : x.es.length ≤ 8
    · have HG := Lib.hid (wkShape_iff.2 ⟨h1, h2⟩)
      have q1 : ((x.ns.length : Int) == (x.es.length : Int) + 1) = true := by simp; omega
      have q2 : decide ((x.es.length : Int) ≤ 8) = true := decide_eq_true (by omega)
      clear h1
      go_enter Try.func52, Try.ntmps52
      go_wp2_with fail
      go_ret
      exact ⟨ret_bool (by rw [HG.out]), (Below.refl _ _).alloc (Nat.le_refl _) _⟩
    · have HG := Lib.hid (wkShape_not.2 (fun h => h2 h.2))
      have q1 : ((x.ns.length : Int) == (x.es.length : Int) + 1) = true := by simp; omega
      have q2 : decide ((x.es.length : Int) ≤ 8) = false := decide_eq_false (by omega)
      clear h1
      go_enter Try.func52, Try.ntmps52
      go_wp2_with fail
      go_ret
      exact ⟨ret_bool (by rw [HG.out]), (Below.refl _ _).alloc (Nat.le_refl _) _⟩
  · have HG := Lib.hid (wkShape_not.2 (fun h => h1 h.1))
    have q1 : ((x.ns.length : Int) == (x.es.length : Int) + 1) = false := by simp; omega
    clear h1
    go_enter Try.func52, Try.ntmps52
    go_wp2_with fail
    go_ret
    exact ⟨ret_bool (by rw [HG.out]), (Below.refl _ _).alloc (Nat.le_refl _) _⟩
set_option maxHeartbeats 400000 in
theorem l5Shape_any (x : Wk) (v : Value) (B : Nat) (w : World) (hx : x.At B w v) (hn : x.need ≤ 1048576) :
    Calls Try.prog 54 #[v] w fun e w' => e = .returned (.bool (wkShape x)) ∧ Below w.heap.size w w' := by
  obtain ⟨a, b, rfl, ha, hb⟩ := hx
  obtain ⟨p, cap, rfl⟩ := ha.form
  obtain ⟨q, cq, rfl⟩ := hb.form
  have hm := ha.max
  have hm2 := hb.max
  unfold maxLen at hm hm2
  have hes : x.es.length ≤ 1048576 := by unfold Wk.need at hn; omega
  have hns : x.ns.length ≤ 1048576 := by unfold Wk.need at hn; omega
  clear ha hb hn
  by_cases h1 : x.ns.length = x.es.length + 1
  · by_cases h2 : x.es.length ≤ 8
    · have HG := Lib.hid (wkShape_iff.2 ⟨h1, h2⟩)
      have q1 : ((x.ns.length : Int) == (x.es.length : Int) + 1) = true := by simp; omega
      have q2 : decide ((x.es.length : Int) ≤ 8) = true := decide_eq_true (by omega)
      clear h1
      go_enter Try.func54, Try.ntmps54
      go_wp2_with fail
      go_ret
      exact ⟨ret_bool (by rw [HG.out]), (Below.refl _ _).alloc (Nat.le_refl _) _⟩
    · have HG := Lib.hid (wkShape_not.2 (fun h => h2 h.2))
      have q1 : ((x.ns.length : Int) == (x.es.length : Int) + 1) = true := by simp; omega
      have q2 : decide ((x.es.length : Int) ≤ 8) = false := decide_eq_false (by omega)
      clear h1
      go_enter Try.func54, Try.ntmps54
      go_wp2_with fail
      go_ret
      exact ⟨ret_bool (by rw [HG.out]), (Below.refl _ _).alloc (Nat.le_refl _) _⟩
  · have HG := Lib.hid (wkShape_not.2 (fun h => h1 h.1))
    have q1 : ((x.ns.length : Int) == (x.es.length : Int) + 1) = false := by simp; omega
    clear h1
    go_enter Try.func54, Try.ntmps54
    go_wp2_with fail
    go_ret
    exact ⟨ret_bool (by rw [HG.out]), (Below.refl _ _).alloc (Nat.le_refl _) _⟩
end Go.Proofs.Ytfdkmngkpihpbaa
