/- The text of an element: as data; impl.FormatElem, spec.FormatElem. -/
import Derived.Test.YtkehmecnoeghoaaDoorM5p1
import Derived.Test.YtkehmecnoeghoaaDoorFmtI
import Derived.Test.YtkehmecnoeghoaaDoorFmtS
namespace Go.Proofs.YtkehmecnoeghoaaDoor
open Go.RowKit

def elFr (d : Int) : ByteArray := if d = 0 then ⟨#[40]⟩ else if d = 1 then ⟨#[45, 91]⟩ else if d = 2 then ⟨#[60, 45, 91]⟩ else ⟨#[45, 91]⟩
def elBk (d : Int) : ByteArray := if d = 0 then ⟨#[41]⟩ else if d = 1 then ⟨#[93, 45, 62]⟩ else if d = 2 then ⟨#[93, 45]⟩ else ⟨#[93, 45]⟩
def elIn (e : El) : ByteArray :=
  match exNone e.l, exNone e.c with
  | true, true => e.v
  | false, true => e.v ++ (s1 58 ++ e.l.txt)
  | true, false => e.v ++ (s1 63 ++ e.c.txt)
  | false, false => e.v ++ (s1 58 ++ (e.l.txt ++ (s1 63 ++ e.c.txt)))
def elTxt (e : El) : ByteArray := elFr e.d ++ (elIn e ++ elBk e.d)
def fmtEl (e : El) : ByteArray := if elemV e then elTxt e else ⟨#[]⟩
theorem fmtE_ok {kind : Int} {e : Ex} (h : exV kind e = true) : fmtE kind e = e.txt := by unfold fmtE; rw [h]; rfl
/-- The table of the forms is as it began. -/
def Forms (w : World) : Prop := w.cell? ⟨0, 0, none⟩ = some (.string ⟨#[40]⟩) ∧ w.cell? ⟨0, 1, none⟩ = some (.string ⟨#[41]⟩) ∧ w.cell? ⟨0, 2, none⟩ = some (.string ⟨#[45, 91]⟩) ∧ w.cell? ⟨0, 3, none⟩ = some (.string ⟨#[93, 45, 62]⟩) ∧ w.cell? ⟨0, 4, none⟩ = some (.string ⟨#[60, 45, 91]⟩) ∧ w.cell? ⟨0, 5, none⟩ = some (.string ⟨#[93, 45]⟩) ∧ w.cell? ⟨0, 6, none⟩ = some (.string ⟨#[45, 91]⟩) ∧ w.cell? ⟨0, 7, none⟩ = some (.string ⟨#[93, 45]⟩)
theorem Forms.below {w w' : World} (h : Forms w) (hb : Below w.heap.size w w') : Forms w' := by
  obtain ⟨h0, h1, h2, h3, h4, h5, h6, h7⟩ := h
  have hl := World.block_lt_of_cell? w _ h0
  exact ⟨keepc hb hl h0, keepc hb hl h1, keepc hb hl h2, keepc hb hl h3, keepc hb hl h4, keepc hb hl h5, keepc hb hl h6, keepc hb hl h7⟩
def VarsF (w : World) : Prop := Vars w ∧ Forms w
theorem VarsF.below {w w' : World} (h : VarsF w) (hb : Below w.heap.size w w') : VarsF w' := ⟨h.1.below hb, h.2.below hb⟩
theorem elemV_parts {e : El} (h : elemV e = true) : (e.d = 0 ∨ e.d = 1 ∨ e.d = 2 ∨ e.d = 3) ∧ e.v.size ≤ 6 ∧ partV 1 e.l = true ∧ partV 2 e.c = true := by
  unfold elemV dirV varV at h
  simp only [Bool.and_eq_true, Bool.or_eq_true, decide_eq_true_eq] at h
  obtain ⟨⟨_, h1, h2⟩, h3, h4, h5⟩ := h
  refine ⟨by omega, ?_, h4, h5⟩
  rcases h3 with h3 | h3
  · omega
  · exact lv_size h3
theorem txt_ok {kind : Int} {e : Ex} (h : exV kind e = true) : e.txt.size ≤ 50000 := Ex.txt_small (exV_ok h) (Nat.le_refl _)

set_option maxRecDepth 100000 in
set_option maxHeartbeats 8000000 in
theorem fmtElI_bad (e : El) (p p' : Option Addr) (cap cap' : Nat) (B : Nat) (w : World) (hu : e.At B w (.agg #[.bool e.n, .string e.v, .int .i64 e.l.op, .string e.l.a, .slice p e.l.ks.list.length cap, .int .i64 e.c.op, .string e.c.a, .slice p' e.c.ks.list.length cap', .int .i64 e.d])) (hB : B ≤ w.heap.size) (hs : e.Sm) (hV : elemV e = false) (hvars : VarsF w) :
    Calls Tryd.prog 10 #[.agg #[.bool e.n, .string e.v, .int .i64 e.l.op, .string e.l.a, .slice p e.l.ks.list.length cap, .int .i64 e.c.op, .string e.c.a, .slice p' e.c.ks.list.length cap', .int .i64 e.d]] w fun en w' => en = .returned (.string (fmtEl e)) ∧ Below w.heap.size w w' := by
  have HU := Lib.hid hu
  have HS := Lib.hid hs
  obtain ⟨s1, s2, s3, s4, s5⟩ := hs
  have HS3 := Lib.hid s3
  have HS5 := Lib.hid s5
  obtain ⟨k0, k0', hk0, hl, hc⟩ := hu
  simp only [Value.agg.injEq, Array.mk.injEq, List.cons.injEq, true_and, and_true] at hk0
  have hk1 := hk0.1
  have hk2 := hk0.2
  clear hk0
  subst hk1
  skip
  skip
  subst hk2
  have HL := Lib.hid hl
  have HC := Lib.hid hc
  have HVV := Lib.hid hvars
  clear hl hc s3 s5 hvars
  obtain ⟨W0, eW⟩ : ∃ W0, W0 = w.alloc (.cells #[.bool e.n, .string e.v, .int .i64 e.l.op, .string e.l.a, .slice p e.l.ks.list.length cap, .int .i64 e.c.op, .string e.c.a, .slice p' e.c.ks.list.length cap', .int .i64 e.d] 27) := ⟨_, rfl⟩
  have HV := Lib.hid (show Below w.heap.size w W0 by rw [eW]; exact (Below.refl w.heap.size w).alloc (by simp) _)
  have hs0 : w.heap.size + 1 ≤ W0.heap.size := by rw [eW]; simp
  have HK := Lib.hid (show ∀ wk, Below (w.heap.size + 1) W0 wk → w.heap.size + 1 ≤ wk.heap.size ∧ wk.cell? ⟨w.heap.size, 0, none⟩ = some (.bool e.n) ∧ wk.cell? ⟨w.heap.size, 1, none⟩ = some (.string e.v) ∧ wk.cell? ⟨w.heap.size, 2, none⟩ = some (.int .i64 e.l.op) ∧ wk.cell? ⟨w.heap.size, 3, none⟩ = some (.string e.l.a) ∧ wk.cell? ⟨w.heap.size, 4, none⟩ = some (.slice p e.l.ks.list.length cap) ∧ wk.cell? ⟨w.heap.size, 5, none⟩ = some (.int .i64 e.c.op) ∧ wk.cell? ⟨w.heap.size, 6, none⟩ = some (.string e.c.a) ∧ wk.cell? ⟨w.heap.size, 7, none⟩ = some (.slice p' e.c.ks.list.length cap') ∧ wk.cell? ⟨w.heap.size, 8, none⟩ = some (.int .i64 e.d) from
    fun wk hk => by rw [eW] at hk; exact ⟨by have := hk.size; simp at this; omega, keepc hk (by omega) (by simp [go_sem]), keepc hk (by omega) (by simp [go_sem]), keepc hk (by omega) (by simp [go_sem]), keepc hk (by omega) (by simp [go_sem]), keepc hk (by omega) (by simp [go_sem]), keepc hk (by omega) (by simp [go_sem]), keepc hk (by omega) (by simp [go_sem]), keepc hk (by omega) (by simp [go_sem]), keepc hk (by omega) (by simp [go_sem])⟩)
  have HA := Lib.hid (Below.refl (w.heap.size + 1) W0)
  have HEA := Lib.hid (show ∀ wk, Below (w.heap.size + 1) W0 wk → e.At B wk (.agg #[.bool e.n, .string e.v, .int .i64 e.l.op, .string e.l.a, .slice p e.l.ks.list.length cap, .int .i64 e.c.op, .string e.c.a, .slice p' e.c.ks.list.length cap', .int .i64 e.d]) from fun wk hk => HU.out.below ((HV.out.trans (hk.mono (by omega))).mono hB) (Nat.le_refl _))
  have HLA := Lib.hid (show ∀ wk, Below (w.heap.size + 1) W0 wk → e.l.At B wk (.agg #[.int .i64 e.l.op, .string e.l.a, .slice p e.l.ks.list.length cap]) from fun wk hk => ⟨_, rfl, HL.out.below ((HV.out.trans (hk.mono (by omega))).mono hB) (Nat.le_refl _)⟩)
  have HCA := Lib.hid (show ∀ wk, Below (w.heap.size + 1) W0 wk → e.c.At B wk (.agg #[.int .i64 e.c.op, .string e.c.a, .slice p' e.c.ks.list.length cap']) from fun wk hk => ⟨_, rfl, HC.out.below ((HV.out.trans (hk.mono (by omega))).mono hB) (Nat.le_refl _)⟩)
  have HVA := Lib.hid (show ∀ wk, Below (w.heap.size + 1) W0 wk → VarsF wk from fun wk hk => HVV.out.below (HV.out.trans (hk.mono (by omega))))
  have EW := Lib.hid eW
  clear eW HU
  have HT := Lib.hid (show fmtEl e = ⟨#[]⟩ by unfold fmtEl; rw [hV]; rfl)
  go_enter Tryd.func10, Tryd.ntmps10
  go_wp2_with fail
  rw [← EW.out]
  refine (elemValid_any e _ B _ (HEA.out _ HA.out) (by omega) HS.out (HVA.out _ HA.out).1).mono ?_
  rintro en w1 ⟨rfl, hb⟩
  have HA := Lib.hid (HA.out.trans (hb.mono (by omega)))
  clear hb
  rw [hV]
  go_wp2_with fail
  go_ret
  exact ⟨by rw [HT.out]; first | rfl | fail "ret", HV.out.trans (HA.out.mono (by omega))⟩

set_option maxRecDepth 100000 in
set_option maxHeartbeats 8000000 in
theorem fmtElI0 (e : El) (p p' : Option Addr) (cap cap' : Nat) (B : Nat) (w : World) (hu : e.At B w (.agg #[.bool e.n, .string e.v, .int .i64 e.l.op, .string e.l.a, .slice p e.l.ks.list.length cap, .int .i64 e.c.op, .string e.c.a, .slice p' e.c.ks.list.length cap', .int .i64 0])) (hB : B ≤ w.heap.size) (hs : e.Sm) (hD : e.d = 0) (hV : elemV e = true) (hvars : VarsF w) :
    Calls Tryd.prog 10 #[.agg #[.bool e.n, .string e.v, .int .i64 e.l.op, .string e.l.a, .slice p e.l.ks.list.length cap, .int .i64 e.c.op, .string e.c.a, .slice p' e.c.ks.list.length cap', .int .i64 0]] w fun en w' => en = .returned (.string (fmtEl e)) ∧ Below w.heap.size w w' := by
  have HU := Lib.hid hu
  have HS := Lib.hid hs
  obtain ⟨s1, s2, s3, s4, s5⟩ := hs
  have HS3 := Lib.hid s3
  have HS5 := Lib.hid s5
  obtain ⟨k0, k0', hk0, hl, hc⟩ := hu
  simp only [Value.agg.injEq, Array.mk.injEq, List.cons.injEq, true_and, and_true] at hk0
  have hk1 := hk0.1
  have hk2 := hk0.2
  clear hk0
  subst hk1
  obtain ⟨hk2, hk3⟩ := hk2
  clear hk3
  subst hk2
  have HL := Lib.hid hl
  have HC := Lib.hid hc
  have HVV := Lib.hid hvars
  clear hl hc s3 s5 hvars
  obtain ⟨W0, eW⟩ : ∃ W0, W0 = w.alloc (.cells #[.bool e.n, .string e.v, .int .i64 e.l.op, .string e.l.a, .slice p e.l.ks.list.length cap, .int .i64 e.c.op, .string e.c.a, .slice p' e.c.ks.list.length cap', .int .i64 0] 27) := ⟨_, rfl⟩
  have HV := Lib.hid (show Below w.heap.size w W0 by rw [eW]; exact (Below.refl w.heap.size w).alloc (by simp) _)
  have hs0 : w.heap.size + 1 ≤ W0.heap.size := by rw [eW]; simp
  have HK := Lib.hid (show ∀ wk, Below (w.heap.size + 1) W0 wk → w.heap.size + 1 ≤ wk.heap.size ∧ wk.cell? ⟨w.heap.size, 0, none⟩ = some (.bool e.n) ∧ wk.cell? ⟨w.heap.size, 1, none⟩ = some (.string e.v) ∧ wk.cell? ⟨w.heap.size, 2, none⟩ = some (.int .i64 e.l.op) ∧ wk.cell? ⟨w.heap.size, 3, none⟩ = some (.string e.l.a) ∧ wk.cell? ⟨w.heap.size, 4, none⟩ = some (.slice p e.l.ks.list.length cap) ∧ wk.cell? ⟨w.heap.size, 5, none⟩ = some (.int .i64 e.c.op) ∧ wk.cell? ⟨w.heap.size, 6, none⟩ = some (.string e.c.a) ∧ wk.cell? ⟨w.heap.size, 7, none⟩ = some (.slice p' e.c.ks.list.length cap') ∧ wk.cell? ⟨w.heap.size, 8, none⟩ = some (.int .i64 0) from
    fun wk hk => by rw [eW] at hk; exact ⟨by have := hk.size; simp at this; omega, keepc hk (by omega) (by simp [go_sem]), keepc hk (by omega) (by simp [go_sem]), keepc hk (by omega) (by simp [go_sem]), keepc hk (by omega) (by simp [go_sem]), keepc hk (by omega) (by simp [go_sem]), keepc hk (by omega) (by simp [go_sem]), keepc hk (by omega) (by simp [go_sem]), keepc hk (by omega) (by simp [go_sem]), keepc hk (by omega) (by simp [go_sem])⟩)
  have HA := Lib.hid (Below.refl (w.heap.size + 1) W0)
  have HEA := Lib.hid (show ∀ wk, Below (w.heap.size + 1) W0 wk → e.At B wk (.agg #[.bool e.n, .string e.v, .int .i64 e.l.op, .string e.l.a, .slice p e.l.ks.list.length cap, .int .i64 e.c.op, .string e.c.a, .slice p' e.c.ks.list.length cap', .int .i64 0]) from fun wk hk => HU.out.below ((HV.out.trans (hk.mono (by omega))).mono hB) (Nat.le_refl _))
  have HLA := Lib.hid (show ∀ wk, Below (w.heap.size + 1) W0 wk → e.l.At B wk (.agg #[.int .i64 e.l.op, .string e.l.a, .slice p e.l.ks.list.length cap]) from fun wk hk => ⟨_, rfl, HL.out.below ((HV.out.trans (hk.mono (by omega))).mono hB) (Nat.le_refl _)⟩)
  have HCA := Lib.hid (show ∀ wk, Below (w.heap.size + 1) W0 wk → e.c.At B wk (.agg #[.int .i64 e.c.op, .string e.c.a, .slice p' e.c.ks.list.length cap']) from fun wk hk => ⟨_, rfl, HC.out.below ((HV.out.trans (hk.mono (by omega))).mono hB) (Nat.le_refl _)⟩)
  have HVA := Lib.hid (show ∀ wk, Below (w.heap.size + 1) W0 wk → VarsF wk from fun wk hk => HVV.out.below (HV.out.trans (hk.mono (by omega))))
  have EW := Lib.hid eW
  clear eW HU
  obtain ⟨_, hvs, hpl, hpc⟩ := elemV_parts hV
  have HT0 := Lib.hid (show fmtEl e = elTxt e by unfold fmtEl; rw [hV]; rfl)
  go_enter Tryd.func10, Tryd.ntmps10
  go_wp2_with fail
  rw [← EW.out]
  refine (elemValid_any e _ B _ (HEA.out _ HA.out) (by omega) HS.out (HVA.out _ HA.out).1).mono ?_
  rintro en w1 ⟨rfl, hb⟩
  have HA := Lib.hid (HA.out.trans (hb.mono (by omega)))
  clear hb
  obtain ⟨hz, c0, c1, c2, c3, c4, c5, c6, c7, c8⟩ := HK.out _ HA.out
  obtain ⟨g0, g1, g2, g3, g4, g5, g6, g7⟩ := (HVA.out _ HA.out).2
  rw [hV]
  have o0 : (9223372036854775807 < 1 + e.v.size) = False := eq_false (by omega)
  have hzl : w.heap.size < w1.heap.size := by omega
  go_wp2_with fail
  have HA := Lib.hid (HA.out.alloc (by omega) (.cells #[.string ⟨#[40]⟩, .string ⟨#[41]⟩] 48))
  have hz1 : w.heap.size + 1 ≤ w1.heap.size := hz
  clear hz c0 c1 c2 c3 c4 c5 c6 c7 c8 g0 g1 g2 g3 g4 g5 g6 g7
  refine (noExpr_any e.l.op e.l.a _ e.l.ks.list.length _ _).mono ?_
  rintro en w2 ⟨rfl, hb⟩
  have fb := new_cell hb (j := 1) rfl
  have hz2 : w1.heap.size < w2.heap.size := by have := hb.size; simp at this; omega
  have HA := Lib.hid (HA.out.trans (hb.mono (by simp; omega)))
  clear hb
  obtain ⟨hz, c0, c1, c2, c3, c4, c5, c6, c7, c8⟩ := HK.out _ HA.out
  cases hN1 : noneB e.l.op e.l.a e.l.ks.list.length with
  | true =>
    have hnl : exNone e.l = true := hN1
    clear hN1
    go_wp2_with fail
    refine (noExpr_any e.c.op e.c.a _ e.c.ks.list.length _ _).mono ?_
    rintro en w3 ⟨rfl, hb⟩
    have fb' := keepc hb (by omega) fb
    have hz3 : w1.heap.size < w3.heap.size := by have := hb.size; omega
    have HA := Lib.hid (HA.out.trans (hb.mono (by omega)))
    clear hb hz c0 c1 c2 c3 c4 c5 c6 c7 c8
    obtain ⟨hz, c0, c1, c2, c3, c4, c5, c6, c7, c8⟩ := HK.out _ HA.out
    cases hN2 : noneB e.c.op e.c.a e.c.ks.list.length with
    | true =>
      have hnc : exNone e.c = true := hN2
      have HT := Lib.hid (show fmtEl e = (⟨#[40]⟩ ++ e.v) ++ ⟨#[41]⟩ by rw [HT0.out]; simp only [elTxt, elIn, hnl, hnc, elFr, elBk, hD, ByteArray.append_assoc]; rfl)
      clear hN2 hnc hnl
      have o0 : (9223372036854775807 < 1 + e.v.size) = False := eq_false (by omega)
      have o1 : (9223372036854775807 < 1 + e.v.size + 1) = False := eq_false (by omega)
      go_wp2_with fail
      go_ret
      exact ⟨by rw [HT.out]; first | rfl | fail "ret", HV.out.trans (HA.out.mono (by omega))⟩
    | false =>
      have hnc : exNone e.c = false := hN2
      have hxc : exV 2 e.c = true := by unfold partV at hpc; rw [hnc] at hpc; simpa using hpc
      obtain ⟨T2, hT2⟩ : ∃ T2, T2 = fmtE 2 e.c := ⟨_, rfl⟩
      have ET2 := Lib.hid (show T2 = e.c.txt from hT2.trans (fmtE_ok hxc))
      have hts2 : T2.size ≤ 50000 := by rw [ET2.out]; exact txt_ok hxc
      have HT := Lib.hid (show fmtEl e = ((⟨#[40]⟩ ++ e.v) ++ (⟨#[63]⟩ ++ T2)) ++ ⟨#[41]⟩ by rw [HT0.out, ET2.out]; simp only [elTxt, elIn, hnl, hnc, elFr, elBk, hD, ByteArray.append_assoc]; rfl)
      clear hN2 hnc hnl hxc
      have o0 : (9223372036854775807 < 1 + e.v.size) = False := eq_false (by omega)
      have o1 : (9223372036854775807 < 1 + T2.size) = False := eq_false (by omega)
      have o2 : (9223372036854775807 < 1 + e.v.size + (1 + T2.size)) = False := eq_false (by omega)
      have o3 : (9223372036854775807 < 1 + e.v.size + (1 + T2.size) + 1) = False := eq_false (by omega)
      go_wp2_with fail
      refine (formatExpr_any e.c _ 2 B _ (HCA.out _ HA.out) (by omega) s4 HS5.out (HVA.out _ HA.out).1).mono ?_
      rintro en w4 ⟨rfl, hb⟩
      rw [← hT2]
      have fb'' := keepc hb (by omega) fb'
      have hz4 : w1.heap.size < w4.heap.size := by have := hb.size; omega
      have HA := Lib.hid (HA.out.trans (hb.mono (by omega)))
      clear hb hz c0 c1 c2 c3 c4 c5 c6 c7 c8
      obtain ⟨hz, c0, c1, c2, c3, c4, c5, c6, c7, c8⟩ := HK.out _ HA.out
      clear hT2
      go_wp2_with fail
      go_ret
      exact ⟨by rw [HT.out]; first | rfl | fail "ret", HV.out.trans (HA.out.mono (by omega))⟩
  | false =>
    have hnl : exNone e.l = false := hN1
    have hxl : exV 1 e.l = true := by unfold partV at hpl; rw [hnl] at hpl; simpa using hpl
    obtain ⟨T1, hT1⟩ : ∃ T1, T1 = fmtE 1 e.l := ⟨_, rfl⟩
    have ET1 := Lib.hid (show T1 = e.l.txt from hT1.trans (fmtE_ok hxl))
    have hts1 : T1.size ≤ 50000 := by rw [ET1.out]; exact txt_ok hxl
    clear hN1 hxl
    have o8 : (9223372036854775807 < 1 + T1.size) = False := eq_false (by omega)
    have o9 : (9223372036854775807 < 1 + e.v.size + (1 + T1.size)) = False := eq_false (by omega)
    go_wp2_with fail
    refine (formatExpr_any e.l _ 1 B _ (HLA.out _ HA.out) (by omega) s2 HS3.out (HVA.out _ HA.out).1).mono ?_
    rintro en w3 ⟨rfl, hb⟩
    rw [← hT1]
    have fb := keepc hb (by omega) fb
    have hz3 : w1.heap.size < w3.heap.size := by have := hb.size; omega
    have HA := Lib.hid (HA.out.trans (hb.mono (by omega)))
    clear hb hz c0 c1 c2 c3 c4 c5 c6 c7 c8 hT1
    obtain ⟨hz, c0, c1, c2, c3, c4, c5, c6, c7, c8⟩ := HK.out _ HA.out
    go_wp2_with fail
    refine (noExpr_any e.c.op e.c.a _ e.c.ks.list.length _ _).mono ?_
    rintro en w4 ⟨rfl, hb⟩
    have fb' := keepc hb (by omega) fb
    have hz4 : w1.heap.size < w4.heap.size := by have := hb.size; omega
    have HA := Lib.hid (HA.out.trans (hb.mono (by omega)))
    clear hb hz c0 c1 c2 c3 c4 c5 c6 c7 c8
    obtain ⟨hz, c0, c1, c2, c3, c4, c5, c6, c7, c8⟩ := HK.out _ HA.out
    cases hN2 : noneB e.c.op e.c.a e.c.ks.list.length with
    | true =>
      have hnc : exNone e.c = true := hN2
      have HT := Lib.hid (show fmtEl e = ((⟨#[40]⟩ ++ e.v) ++ (⟨#[58]⟩ ++ T1)) ++ ⟨#[41]⟩ by rw [HT0.out, ET1.out]; simp only [elTxt, elIn, hnl, hnc, elFr, elBk, hD, ByteArray.append_assoc]; rfl)
      clear hN2 hnc hnl
      have o0 : (9223372036854775807 < 1 + e.v.size) = False := eq_false (by omega)
      have o1 : (9223372036854775807 < 1 + T1.size) = False := eq_false (by omega)
      have o2 : (9223372036854775807 < 1 + e.v.size + (1 + T1.size)) = False := eq_false (by omega)
      have o3 : (9223372036854775807 < 1 + e.v.size + (1 + T1.size) + 1) = False := eq_false (by omega)
      go_wp2_with fail
      go_ret
      exact ⟨by rw [HT.out]; first | rfl | fail "ret", HV.out.trans (HA.out.mono (by omega))⟩
    | false =>
      have hnc : exNone e.c = false := hN2
      have hxc : exV 2 e.c = true := by unfold partV at hpc; rw [hnc] at hpc; simpa using hpc
      obtain ⟨T2, hT2⟩ : ∃ T2, T2 = fmtE 2 e.c := ⟨_, rfl⟩
      have ET2 := Lib.hid (show T2 = e.c.txt from hT2.trans (fmtE_ok hxc))
      have hts2 : T2.size ≤ 50000 := by rw [ET2.out]; exact txt_ok hxc
      have HT := Lib.hid (show fmtEl e = (((⟨#[40]⟩ ++ e.v) ++ (⟨#[58]⟩ ++ T1)) ++ (⟨#[63]⟩ ++ T2)) ++ ⟨#[41]⟩ by rw [HT0.out, ET1.out, ET2.out]; simp only [elTxt, elIn, hnl, hnc, elFr, elBk, hD, ByteArray.append_assoc]; rfl)
      clear hN2 hnc hnl hxc
      have o0 : (9223372036854775807 < 1 + e.v.size) = False := eq_false (by omega)
      have o1 : (9223372036854775807 < 1 + T1.size) = False := eq_false (by omega)
      have o2 : (9223372036854775807 < 1 + e.v.size + (1 + T1.size)) = False := eq_false (by omega)
      have o3 : (9223372036854775807 < 1 + T2.size) = False := eq_false (by omega)
      have o4 : (9223372036854775807 < 1 + e.v.size + (1 + T1.size) + (1 + T2.size)) = False := eq_false (by omega)
      have o5 : (9223372036854775807 < 1 + e.v.size + (1 + T1.size) + (1 + T2.size) + 1) = False := eq_false (by omega)
      go_wp2_with fail
      refine (formatExpr_any e.c _ 2 B _ (HCA.out _ HA.out) (by omega) s4 HS5.out (HVA.out _ HA.out).1).mono ?_
      rintro en w5 ⟨rfl, hb⟩
      rw [← hT2]
      have fb'' := keepc hb (by omega) fb'
      have hz5 : w1.heap.size < w5.heap.size := by have := hb.size; omega
      have HA := Lib.hid (HA.out.trans (hb.mono (by omega)))
      clear hb hz c0 c1 c2 c3 c4 c5 c6 c7 c8
      obtain ⟨hz, c0, c1, c2, c3, c4, c5, c6, c7, c8⟩ := HK.out _ HA.out
      clear hT2
      go_wp2_with fail
      go_ret
      exact ⟨by rw [HT.out]; first | rfl | fail "ret", HV.out.trans (HA.out.mono (by omega))⟩

set_option maxRecDepth 100000 in
set_option maxHeartbeats 8000000 in
theorem fmtElI1 (e : El) (p p' : Option Addr) (cap cap' : Nat) (B : Nat) (w : World) (hu : e.At B w (.agg #[.bool e.n, .string e.v, .int .i64 e.l.op, .string e.l.a, .slice p e.l.ks.list.length cap, .int .i64 e.c.op, .string e.c.a, .slice p' e.c.ks.list.length cap', .int .i64 1])) (hB : B ≤ w.heap.size) (hs : e.Sm) (hD : e.d = 1) (hV : elemV e = true) (hvars : VarsF w) :
    Calls Tryd.prog 10 #[.agg #[.bool e.n, .string e.v, .int .i64 e.l.op, .string e.l.a, .slice p e.l.ks.list.length cap, .int .i64 e.c.op, .string e.c.a, .slice p' e.c.ks.list.length cap', .int .i64 1]] w fun en w' => en = .returned (.string (fmtEl e)) ∧ Below w.heap.size w w' := by
  have HU := Lib.hid hu
  have HS := Lib.hid hs
  obtain ⟨s1, s2, s3, s4, s5⟩ := hs
  have HS3 := Lib.hid s3
  have HS5 := Lib.hid s5
  obtain ⟨k0, k0', hk0, hl, hc⟩ := hu
  simp only [Value.agg.injEq, Array.mk.injEq, List.cons.injEq, true_and, and_true] at hk0
  have hk1 := hk0.1
  have hk2 := hk0.2
  clear hk0
  subst hk1
  obtain ⟨hk2, hk3⟩ := hk2
  clear hk3
  subst hk2
  have HL := Lib.hid hl
  have HC := Lib.hid hc
  have HVV := Lib.hid hvars
  clear hl hc s3 s5 hvars
  obtain ⟨W0, eW⟩ : ∃ W0, W0 = w.alloc (.cells #[.bool e.n, .string e.v, .int .i64 e.l.op, .string e.l.a, .slice p e.l.ks.list.length cap, .int .i64 e.c.op, .string e.c.a, .slice p' e.c.ks.list.length cap', .int .i64 1] 27) := ⟨_, rfl⟩
  have HV := Lib.hid (show Below w.heap.size w W0 by rw [eW]; exact (Below.refl w.heap.size w).alloc (by simp) _)
  have hs0 : w.heap.size + 1 ≤ W0.heap.size := by rw [eW]; simp
  have HK := Lib.hid (show ∀ wk, Below (w.heap.size + 1) W0 wk → w.heap.size + 1 ≤ wk.heap.size ∧ wk.cell? ⟨w.heap.size, 0, none⟩ = some (.bool e.n) ∧ wk.cell? ⟨w.heap.size, 1, none⟩ = some (.string e.v) ∧ wk.cell? ⟨w.heap.size, 2, none⟩ = some (.int .i64 e.l.op) ∧ wk.cell? ⟨w.heap.size, 3, none⟩ = some (.string e.l.a) ∧ wk.cell? ⟨w.heap.size, 4, none⟩ = some (.slice p e.l.ks.list.length cap) ∧ wk.cell? ⟨w.heap.size, 5, none⟩ = some (.int .i64 e.c.op) ∧ wk.cell? ⟨w.heap.size, 6, none⟩ = some (.string e.c.a) ∧ wk.cell? ⟨w.heap.size, 7, none⟩ = some (.slice p' e.c.ks.list.length cap') ∧ wk.cell? ⟨w.heap.size, 8, none⟩ = some (.int .i64 1) from
    fun wk hk => by rw [eW] at hk; exact ⟨by have := hk.size; simp at this; omega, keepc hk (by omega) (by simp [go_sem]), keepc hk (by omega) (by simp [go_sem]), keepc hk (by omega) (by simp [go_sem]), keepc hk (by omega) (by simp [go_sem]), keepc hk (by omega) (by simp [go_sem]), keepc hk (by omega) (by simp [go_sem]), keepc hk (by omega) (by simp [go_sem]), keepc hk (by omega) (by simp [go_sem]), keepc hk (by omega) (by simp [go_sem])⟩)
  have HA := Lib.hid (Below.refl (w.heap.size + 1) W0)
  have HEA := Lib.hid (show ∀ wk, Below (w.heap.size + 1) W0 wk → e.At B wk (.agg #[.bool e.n, .string e.v, .int .i64 e.l.op, .string e.l.a, .slice p e.l.ks.list.length cap, .int .i64 e.c.op, .string e.c.a, .slice p' e.c.ks.list.length cap', .int .i64 1]) from fun wk hk => HU.out.below ((HV.out.trans (hk.mono (by omega))).mono hB) (Nat.le_refl _))
  have HLA := Lib.hid (show ∀ wk, Below (w.heap.size + 1) W0 wk → e.l.At B wk (.agg #[.int .i64 e.l.op, .string e.l.a, .slice p e.l.ks.list.length cap]) from fun wk hk => ⟨_, rfl, HL.out.below ((HV.out.trans (hk.mono (by omega))).mono hB) (Nat.le_refl _)⟩)
  have HCA := Lib.hid (show ∀ wk, Below (w.heap.size + 1) W0 wk → e.c.At B wk (.agg #[.int .i64 e.c.op, .string e.c.a, .slice p' e.c.ks.list.length cap']) from fun wk hk => ⟨_, rfl, HC.out.below ((HV.out.trans (hk.mono (by omega))).mono hB) (Nat.le_refl _)⟩)
  have HVA := Lib.hid (show ∀ wk, Below (w.heap.size + 1) W0 wk → VarsF wk from fun wk hk => HVV.out.below (HV.out.trans (hk.mono (by omega))))
  have EW := Lib.hid eW
  clear eW HU
  obtain ⟨_, hvs, hpl, hpc⟩ := elemV_parts hV
  have HT0 := Lib.hid (show fmtEl e = elTxt e by unfold fmtEl; rw [hV]; rfl)
  go_enter Tryd.func10, Tryd.ntmps10
  go_wp2_with fail
  rw [← EW.out]
  refine (elemValid_any e _ B _ (HEA.out _ HA.out) (by omega) HS.out (HVA.out _ HA.out).1).mono ?_
  rintro en w1 ⟨rfl, hb⟩
  have HA := Lib.hid (HA.out.trans (hb.mono (by omega)))
  clear hb
  obtain ⟨hz, c0, c1, c2, c3, c4, c5, c6, c7, c8⟩ := HK.out _ HA.out
  obtain ⟨g0, g1, g2, g3, g4, g5, g6, g7⟩ := (HVA.out _ HA.out).2
  rw [hV]
  have o0 : (9223372036854775807 < 2 + e.v.size) = False := eq_false (by omega)
  have hzl : w.heap.size < w1.heap.size := by omega
  go_wp2_with fail
  have HA := Lib.hid (HA.out.alloc (by omega) (.cells #[.string ⟨#[45, 91]⟩, .string ⟨#[93, 45, 62]⟩] 48))
  have hz1 : w.heap.size + 1 ≤ w1.heap.size := hz
  clear hz c0 c1 c2 c3 c4 c5 c6 c7 c8 g0 g1 g2 g3 g4 g5 g6 g7
  refine (noExpr_any e.l.op e.l.a _ e.l.ks.list.length _ _).mono ?_
  rintro en w2 ⟨rfl, hb⟩
  have fb := new_cell hb (j := 1) rfl
  have hz2 : w1.heap.size < w2.heap.size := by have := hb.size; simp at this; omega
  have HA := Lib.hid (HA.out.trans (hb.mono (by simp; omega)))
  clear hb
  obtain ⟨hz, c0, c1, c2, c3, c4, c5, c6, c7, c8⟩ := HK.out _ HA.out
  cases hN1 : noneB e.l.op e.l.a e.l.ks.list.length with
  | true =>
    have hnl : exNone e.l = true := hN1
    clear hN1
    go_wp2_with fail
    refine (noExpr_any e.c.op e.c.a _ e.c.ks.list.length _ _).mono ?_
    rintro en w3 ⟨rfl, hb⟩
    have fb' := keepc hb (by omega) fb
    have hz3 : w1.heap.size < w3.heap.size := by have := hb.size; omega
    have HA := Lib.hid (HA.out.trans (hb.mono (by omega)))
    clear hb hz c0 c1 c2 c3 c4 c5 c6 c7 c8
    obtain ⟨hz, c0, c1, c2, c3, c4, c5, c6, c7, c8⟩ := HK.out _ HA.out
    cases hN2 : noneB e.c.op e.c.a e.c.ks.list.length with
    | true =>
      have hnc : exNone e.c = true := hN2
      have HT := Lib.hid (show fmtEl e = (⟨#[45, 91]⟩ ++ e.v) ++ ⟨#[93, 45, 62]⟩ by rw [HT0.out]; simp only [elTxt, elIn, hnl, hnc, elFr, elBk, hD, ByteArray.append_assoc]; rfl)
      clear hN2 hnc hnl
      have o0 : (9223372036854775807 < 2 + e.v.size) = False := eq_false (by omega)
      have o1 : (9223372036854775807 < 2 + e.v.size + 3) = False := eq_false (by omega)
      go_wp2_with fail
      go_ret
      exact ⟨by rw [HT.out]; first | rfl | fail "ret", HV.out.trans (HA.out.mono (by omega))⟩
    | false =>
      have hnc : exNone e.c = false := hN2
      have hxc : exV 2 e.c = true := by unfold partV at hpc; rw [hnc] at hpc; simpa using hpc
      obtain ⟨T2, hT2⟩ : ∃ T2, T2 = fmtE 2 e.c := ⟨_, rfl⟩
      have ET2 := Lib.hid (show T2 = e.c.txt from hT2.trans (fmtE_ok hxc))
      have hts2 : T2.size ≤ 50000 := by rw [ET2.out]; exact txt_ok hxc
      have HT := Lib.hid (show fmtEl e = ((⟨#[45, 91]⟩ ++ e.v) ++ (⟨#[63]⟩ ++ T2)) ++ ⟨#[93, 45, 62]⟩ by rw [HT0.out, ET2.out]; simp only [elTxt, elIn, hnl, hnc, elFr, elBk, hD, ByteArray.append_assoc]; rfl)
      clear hN2 hnc hnl hxc
      have o0 : (9223372036854775807 < 2 + e.v.size) = False := eq_false (by omega)
      have o1 : (9223372036854775807 < 1 + T2.size) = False := eq_false (by omega)
      have o2 : (9223372036854775807 < 2 + e.v.size + (1 + T2.size)) = False := eq_false (by omega)
      have o3 : (9223372036854775807 < 2 + e.v.size + (1 + T2.size) + 3) = False := eq_false (by omega)
      go_wp2_with fail
      refine (formatExpr_any e.c _ 2 B _ (HCA.out _ HA.out) (by omega) s4 HS5.out (HVA.out _ HA.out).1).mono ?_
      rintro en w4 ⟨rfl, hb⟩
      rw [← hT2]
      have fb'' := keepc hb (by omega) fb'
      have hz4 : w1.heap.size < w4.heap.size := by have := hb.size; omega
      have HA := Lib.hid (HA.out.trans (hb.mono (by omega)))
      clear hb hz c0 c1 c2 c3 c4 c5 c6 c7 c8
      obtain ⟨hz, c0, c1, c2, c3, c4, c5, c6, c7, c8⟩ := HK.out _ HA.out
      clear hT2
      go_wp2_with fail
      go_ret
      exact ⟨by rw [HT.out]; first | rfl | fail "ret", HV.out.trans (HA.out.mono (by omega))⟩
  | false =>
    have hnl : exNone e.l = false := hN1
    have hxl : exV 1 e.l = true := by unfold partV at hpl; rw [hnl] at hpl; simpa using hpl
    obtain ⟨T1, hT1⟩ : ∃ T1, T1 = fmtE 1 e.l := ⟨_, rfl⟩
    have ET1 := Lib.hid (show T1 = e.l.txt from hT1.trans (fmtE_ok hxl))
    have hts1 : T1.size ≤ 50000 := by rw [ET1.out]; exact txt_ok hxl
    clear hN1 hxl
    have o8 : (9223372036854775807 < 1 + T1.size) = False := eq_false (by omega)
    have o9 : (9223372036854775807 < 2 + e.v.size + (1 + T1.size)) = False := eq_false (by omega)
    go_wp2_with fail
    refine (formatExpr_any e.l _ 1 B _ (HLA.out _ HA.out) (by omega) s2 HS3.out (HVA.out _ HA.out).1).mono ?_
    rintro en w3 ⟨rfl, hb⟩
    rw [← hT1]
    have fb := keepc hb (by omega) fb
    have hz3 : w1.heap.size < w3.heap.size := by have := hb.size; omega
    have HA := Lib.hid (HA.out.trans (hb.mono (by omega)))
    clear hb hz c0 c1 c2 c3 c4 c5 c6 c7 c8 hT1
    obtain ⟨hz, c0, c1, c2, c3, c4, c5, c6, c7, c8⟩ := HK.out _ HA.out
    go_wp2_with fail
    refine (noExpr_any e.c.op e.c.a _ e.c.ks.list.length _ _).mono ?_
    rintro en w4 ⟨rfl, hb⟩
    have fb' := keepc hb (by omega) fb
    have hz4 : w1.heap.size < w4.heap.size := by have := hb.size; omega
    have HA := Lib.hid (HA.out.trans (hb.mono (by omega)))
    clear hb hz c0 c1 c2 c3 c4 c5 c6 c7 c8
    obtain ⟨hz, c0, c1, c2, c3, c4, c5, c6, c7, c8⟩ := HK.out _ HA.out
    cases hN2 : noneB e.c.op e.c.a e.c.ks.list.length with
    | true =>
      have hnc : exNone e.c = true := hN2
      have HT := Lib.hid (show fmtEl e = ((⟨#[45, 91]⟩ ++ e.v) ++ (⟨#[58]⟩ ++ T1)) ++ ⟨#[93, 45, 62]⟩ by rw [HT0.out, ET1.out]; simp only [elTxt, elIn, hnl, hnc, elFr, elBk, hD, ByteArray.append_assoc]; rfl)
      clear hN2 hnc hnl
      have o0 : (9223372036854775807 < 2 + e.v.size) = False := eq_false (by omega)
      have o1 : (9223372036854775807 < 1 + T1.size) = False := eq_false (by omega)
      have o2 : (9223372036854775807 < 2 + e.v.size + (1 + T1.size)) = False := eq_false (by omega)
      have o3 : (9223372036854775807 < 2 + e.v.size + (1 + T1.size) + 3) = False := eq_false (by omega)
      go_wp2_with fail
      go_ret
      exact ⟨by rw [HT.out]; first | rfl | fail "ret", HV.out.trans (HA.out.mono (by omega))⟩
    | false =>
      have hnc : exNone e.c = false := hN2
      have hxc : exV 2 e.c = true := by unfold partV at hpc; rw [hnc] at hpc; simpa using hpc
      obtain ⟨T2, hT2⟩ : ∃ T2, T2 = fmtE 2 e.c := ⟨_, rfl⟩
      have ET2 := Lib.hid (show T2 = e.c.txt from hT2.trans (fmtE_ok hxc))
      have hts2 : T2.size ≤ 50000 := by rw [ET2.out]; exact txt_ok hxc
      have HT := Lib.hid (show fmtEl e = (((⟨#[45, 91]⟩ ++ e.v) ++ (⟨#[58]⟩ ++ T1)) ++ (⟨#[63]⟩ ++ T2)) ++ ⟨#[93, 45, 62]⟩ by rw [HT0.out, ET1.out, ET2.out]; simp only [elTxt, elIn, hnl, hnc, elFr, elBk, hD, ByteArray.append_assoc]; rfl)
      clear hN2 hnc hnl hxc
      have o0 : (9223372036854775807 < 2 + e.v.size) = False := eq_false (by omega)
      have o1 : (9223372036854775807 < 1 + T1.size) = False := eq_false (by omega)
      have o2 : (9223372036854775807 < 2 + e.v.size + (1 + T1.size)) = False := eq_false (by omega)
      have o3 : (9223372036854775807 < 1 + T2.size) = False := eq_false (by omega)
      have o4 : (9223372036854775807 < 2 + e.v.size + (1 + T1.size) + (1 + T2.size)) = False := eq_false (by omega)
      have o5 : (9223372036854775807 < 2 + e.v.size + (1 + T1.size) + (1 + T2.size) + 3) = False := eq_false (by omega)
      go_wp2_with fail
      refine (formatExpr_any e.c _ 2 B _ (HCA.out _ HA.out) (by omega) s4 HS5.out (HVA.out _ HA.out).1).mono ?_
      rintro en w5 ⟨rfl, hb⟩
      rw [← hT2]
      have fb'' := keepc hb (by omega) fb'
      have hz5 : w1.heap.size < w5.heap.size := by have := hb.size; omega
      have HA := Lib.hid (HA.out.trans (hb.mono (by omega)))
      clear hb hz c0 c1 c2 c3 c4 c5 c6 c7 c8
      obtain ⟨hz, c0, c1, c2, c3, c4, c5, c6, c7, c8⟩ := HK.out _ HA.out
      clear hT2
      go_wp2_with fail
      go_ret
      exact ⟨by rw [HT.out]; first | rfl | fail "ret", HV.out.trans (HA.out.mono (by omega))⟩

set_option maxRecDepth 100000 in
set_option maxHeartbeats 8000000 in
theorem fmtElI2 (e : El) (p p' : Option Addr) (cap cap' : Nat) (B : Nat) (w : World) (hu : e.At B w (.agg #[.bool e.n, .string e.v, .int .i64 e.l.op, .string e.l.a, .slice p e.l.ks.list.length cap, .int .i64 e.c.op, .string e.c.a, .slice p' e.c.ks.list.length cap', .int .i64 2])) (hB : B ≤ w.heap.size) (hs : e.Sm) (hD : e.d = 2) (hV : elemV e = true) (hvars : VarsF w) :
    Calls Tryd.prog 10 #[.agg #[.bool e.n, .string e.v, .int .i64 e.l.op, .string e.l.a, .slice p e.l.ks.list.length cap, .int .i64 e.c.op, .string e.c.a, .slice p' e.c.ks.list.length cap', .int .i64 2]] w fun en w' => en = .returned (.string (fmtEl e)) ∧ Below w.heap.size w w' := by
  have HU := Lib.hid hu
  have HS := Lib.hid hs
  obtain ⟨s1, s2, s3, s4, s5⟩ := hs
  have HS3 := Lib.hid s3
  have HS5 := Lib.hid s5
  obtain ⟨k0, k0', hk0, hl, hc⟩ := hu
  simp only [Value.agg.injEq, Array.mk.injEq, List.cons.injEq, true_and, and_true] at hk0
  have hk1 := hk0.1
  have hk2 := hk0.2
  clear hk0
  subst hk1
  obtain ⟨hk2, hk3⟩ := hk2
  clear hk3
  subst hk2
  have HL := Lib.hid hl
  have HC := Lib.hid hc
  have HVV := Lib.hid hvars
  clear hl hc s3 s5 hvars
  obtain ⟨W0, eW⟩ : ∃ W0, W0 = w.alloc (.cells #[.bool e.n, .string e.v, .int .i64 e.l.op, .string e.l.a, .slice p e.l.ks.list.length cap, .int .i64 e.c.op, .string e.c.a, .slice p' e.c.ks.list.length cap', .int .i64 2] 27) := ⟨_, rfl⟩
  have HV := Lib.hid (show Below w.heap.size w W0 by rw [eW]; exact (Below.refl w.heap.size w).alloc (by simp) _)
  have hs0 : w.heap.size + 1 ≤ W0.heap.size := by rw [eW]; simp
  have HK := Lib.hid (show ∀ wk, Below (w.heap.size + 1) W0 wk → w.heap.size + 1 ≤ wk.heap.size ∧ wk.cell? ⟨w.heap.size, 0, none⟩ = some (.bool e.n) ∧ wk.cell? ⟨w.heap.size, 1, none⟩ = some (.string e.v) ∧ wk.cell? ⟨w.heap.size, 2, none⟩ = some (.int .i64 e.l.op) ∧ wk.cell? ⟨w.heap.size, 3, none⟩ = some (.string e.l.a) ∧ wk.cell? ⟨w.heap.size, 4, none⟩ = some (.slice p e.l.ks.list.length cap) ∧ wk.cell? ⟨w.heap.size, 5, none⟩ = some (.int .i64 e.c.op) ∧ wk.cell? ⟨w.heap.size, 6, none⟩ = some (.string e.c.a) ∧ wk.cell? ⟨w.heap.size, 7, none⟩ = some (.slice p' e.c.ks.list.length cap') ∧ wk.cell? ⟨w.heap.size, 8, none⟩ = some (.int .i64 2) from
    fun wk hk => by rw [eW] at hk; exact ⟨by have := hk.size; simp at this; omega, keepc hk (by omega) (by simp [go_sem]), keepc hk (by omega) (by simp [go_sem]), keepc hk (by omega) (by simp [go_sem]), keepc hk (by omega) (by simp [go_sem]), keepc hk (by omega) (by simp [go_sem]), keepc hk (by omega) (by simp [go_sem]), keepc hk (by omega) (by simp [go_sem]), keepc hk (by omega) (by simp [go_sem]), keepc hk (by omega) (by simp [go_sem])⟩)
  have HA := Lib.hid (Below.refl (w.heap.size + 1) W0)
  have HEA := Lib.hid (show ∀ wk, Below (w.heap.size + 1) W0 wk → e.At B wk (.agg #[.bool e.n, .string e.v, .int .i64 e.l.op, .string e.l.a, .slice p e.l.ks.list.length cap, .int .i64 e.c.op, .string e.c.a, .slice p' e.c.ks.list.length cap', .int .i64 2]) from fun wk hk => HU.out.below ((HV.out.trans (hk.mono (by omega))).mono hB) (Nat.le_refl _))
  have HLA := Lib.hid (show ∀ wk, Below (w.heap.size + 1) W0 wk → e.l.At B wk (.agg #[.int .i64 e.l.op, .string e.l.a, .slice p e.l.ks.list.length cap]) from fun wk hk => ⟨_, rfl, HL.out.below ((HV.out.trans (hk.mono (by omega))).mono hB) (Nat.le_refl _)⟩)
  have HCA := Lib.hid (show ∀ wk, Below (w.heap.size + 1) W0 wk → e.c.At B wk (.agg #[.int .i64 e.c.op, .string e.c.a, .slice p' e.c.ks.list.length cap']) from fun wk hk => ⟨_, rfl, HC.out.below ((HV.out.trans (hk.mono (by omega))).mono hB) (Nat.le_refl _)⟩)
  have HVA := Lib.hid (show ∀ wk, Below (w.heap.size + 1) W0 wk → VarsF wk from fun wk hk => HVV.out.below (HV.out.trans (hk.mono (by omega))))
  have EW := Lib.hid eW
  clear eW HU
  obtain ⟨_, hvs, hpl, hpc⟩ := elemV_parts hV
  have HT0 := Lib.hid (show fmtEl e = elTxt e by unfold fmtEl; rw [hV]; rfl)
  go_enter Tryd.func10, Tryd.ntmps10
  go_wp2_with fail
  rw [← EW.out]
  refine (elemValid_any e _ B _ (HEA.out _ HA.out) (by omega) HS.out (HVA.out _ HA.out).1).mono ?_
  rintro en w1 ⟨rfl, hb⟩
  have HA := Lib.hid (HA.out.trans (hb.mono (by omega)))
  clear hb
  obtain ⟨hz, c0, c1, c2, c3, c4, c5, c6, c7, c8⟩ := HK.out _ HA.out
  obtain ⟨g0, g1, g2, g3, g4, g5, g6, g7⟩ := (HVA.out _ HA.out).2
  rw [hV]
  have o0 : (9223372036854775807 < 3 + e.v.size) = False := eq_false (by omega)
  have hzl : w.heap.size < w1.heap.size := by omega
  go_wp2_with fail
  have HA := Lib.hid (HA.out.alloc (by omega) (.cells #[.string ⟨#[60, 45, 91]⟩, .string ⟨#[93, 45]⟩] 48))
  have hz1 : w.heap.size + 1 ≤ w1.heap.size := hz
  clear hz c0 c1 c2 c3 c4 c5 c6 c7 c8 g0 g1 g2 g3 g4 g5 g6 g7
  refine (noExpr_any e.l.op e.l.a _ e.l.ks.list.length _ _).mono ?_
  rintro en w2 ⟨rfl, hb⟩
  have fb := new_cell hb (j := 1) rfl
  have hz2 : w1.heap.size < w2.heap.size := by have := hb.size; simp at this; omega
  have HA := Lib.hid (HA.out.trans (hb.mono (by simp; omega)))
  clear hb
  obtain ⟨hz, c0, c1, c2, c3, c4, c5, c6, c7, c8⟩ := HK.out _ HA.out
  cases hN1 : noneB e.l.op e.l.a e.l.ks.list.length with
  | true =>
    have hnl : exNone e.l = true := hN1
    clear hN1
    go_wp2_with fail
    refine (noExpr_any e.c.op e.c.a _ e.c.ks.list.length _ _).mono ?_
    rintro en w3 ⟨rfl, hb⟩
    have fb' := keepc hb (by omega) fb
    have hz3 : w1.heap.size < w3.heap.size := by have := hb.size; omega
    have HA := Lib.hid (HA.out.trans (hb.mono (by omega)))
    clear hb hz c0 c1 c2 c3 c4 c5 c6 c7 c8
    obtain ⟨hz, c0, c1, c2, c3, c4, c5, c6, c7, c8⟩ := HK.out _ HA.out
    cases hN2 : noneB e.c.op e.c.a e.c.ks.list.length with
    | true =>
      have hnc : exNone e.c = true := hN2
      have HT := Lib.hid (show fmtEl e = (⟨#[60, 45, 91]⟩ ++ e.v) ++ ⟨#[93, 45]⟩ by rw [HT0.out]; simp only [elTxt, elIn, hnl, hnc, elFr, elBk, hD, ByteArray.append_assoc]; rfl)
      clear hN2 hnc hnl
      have o0 : (9223372036854775807 < 3 + e.v.size) = False := eq_false (by omega)
      have o1 : (9223372036854775807 < 3 + e.v.size + 2) = False := eq_false (by omega)
      go_wp2_with fail
      go_ret
      exact ⟨by rw [HT.out]; first | rfl | fail "ret", HV.out.trans (HA.out.mono (by omega))⟩
    | false =>
      have hnc : exNone e.c = false := hN2
      have hxc : exV 2 e.c = true := by unfold partV at hpc; rw [hnc] at hpc; simpa using hpc
      obtain ⟨T2, hT2⟩ : ∃ T2, T2 = fmtE 2 e.c := ⟨_, rfl⟩
      have ET2 := Lib.hid (show T2 = e.c.txt from hT2.trans (fmtE_ok hxc))
      have hts2 : T2.size ≤ 50000 := by rw [ET2.out]; exact txt_ok hxc
      have HT := Lib.hid (show fmtEl e = ((⟨#[60, 45, 91]⟩ ++ e.v) ++ (⟨#[63]⟩ ++ T2)) ++ ⟨#[93, 45]⟩ by rw [HT0.out, ET2.out]; simp only [elTxt, elIn, hnl, hnc, elFr, elBk, hD, ByteArray.append_assoc]; rfl)
      clear hN2 hnc hnl hxc
      have o0 : (9223372036854775807 < 3 + e.v.size) = False := eq_false (by omega)
      have o1 : (9223372036854775807 < 1 + T2.size) = False := eq_false (by omega)
      have o2 : (9223372036854775807 < 3 + e.v.size + (1 + T2.size)) = False := eq_false (by omega)
      have o3 : (9223372036854775807 < 3 + e.v.size + (1 + T2.size) + 2) = False := eq_false (by omega)
      go_wp2_with fail
      refine (formatExpr_any e.c _ 2 B _ (HCA.out _ HA.out) (by omega) s4 HS5.out (HVA.out _ HA.out).1).mono ?_
      rintro en w4 ⟨rfl, hb⟩
      rw [← hT2]
      have fb'' := keepc hb (by omega) fb'
      have hz4 : w1.heap.size < w4.heap.size := by have := hb.size; omega
      have HA := Lib.hid (HA.out.trans (hb.mono (by omega)))
      clear hb hz c0 c1 c2 c3 c4 c5 c6 c7 c8
      obtain ⟨hz, c0, c1, c2, c3, c4, c5, c6, c7, c8⟩ := HK.out _ HA.out
      clear hT2
      go_wp2_with fail
      go_ret
      exact ⟨by rw [HT.out]; first | rfl | fail "ret", HV.out.trans (HA.out.mono (by omega))⟩
  | false =>
    have hnl : exNone e.l = false := hN1
    have hxl : exV 1 e.l = true := by unfold partV at hpl; rw [hnl] at hpl; simpa using hpl
    obtain ⟨T1, hT1⟩ : ∃ T1, T1 = fmtE 1 e.l := ⟨_, rfl⟩
    have ET1 := Lib.hid (show T1 = e.l.txt from hT1.trans (fmtE_ok hxl))
    have hts1 : T1.size ≤ 50000 := by rw [ET1.out]; exact txt_ok hxl
    clear hN1 hxl
    have o8 : (9223372036854775807 < 1 + T1.size) = False := eq_false (by omega)
    have o9 : (9223372036854775807 < 3 + e.v.size + (1 + T1.size)) = False := eq_false (by omega)
    go_wp2_with fail
    refine (formatExpr_any e.l _ 1 B _ (HLA.out _ HA.out) (by omega) s2 HS3.out (HVA.out _ HA.out).1).mono ?_
    rintro en w3 ⟨rfl, hb⟩
    rw [← hT1]
    have fb := keepc hb (by omega) fb
    have hz3 : w1.heap.size < w3.heap.size := by have := hb.size; omega
    have HA := Lib.hid (HA.out.trans (hb.mono (by omega)))
    clear hb hz c0 c1 c2 c3 c4 c5 c6 c7 c8 hT1
    obtain ⟨hz, c0, c1, c2, c3, c4, c5, c6, c7, c8⟩ := HK.out _ HA.out
    go_wp2_with fail
    refine (noExpr_any e.c.op e.c.a _ e.c.ks.list.length _ _).mono ?_
    rintro en w4 ⟨rfl, hb⟩
    have fb' := keepc hb (by omega) fb
    have hz4 : w1.heap.size < w4.heap.size := by have := hb.size; omega
    have HA := Lib.hid (HA.out.trans (hb.mono (by omega)))
    clear hb hz c0 c1 c2 c3 c4 c5 c6 c7 c8
    obtain ⟨hz, c0, c1, c2, c3, c4, c5, c6, c7, c8⟩ := HK.out _ HA.out
    cases hN2 : noneB e.c.op e.c.a e.c.ks.list.length with
    | true =>
      have hnc : exNone e.c = true := hN2
      have HT := Lib.hid (show fmtEl e = ((⟨#[60, 45, 91]⟩ ++ e.v) ++ (⟨#[58]⟩ ++ T1)) ++ ⟨#[93, 45]⟩ by rw [HT0.out, ET1.out]; simp only [elTxt, elIn, hnl, hnc, elFr, elBk, hD, ByteArray.append_assoc]; rfl)
      clear hN2 hnc hnl
      have o0 : (9223372036854775807 < 3 + e.v.size) = False := eq_false (by omega)
      have o1 : (9223372036854775807 < 1 + T1.size) = False := eq_false (by omega)
      have o2 : (9223372036854775807 < 3 + e.v.size + (1 + T1.size)) = False := eq_false (by omega)
      have o3 : (9223372036854775807 < 3 + e.v.size + (1 + T1.size) + 2) = False := eq_false (by omega)
      go_wp2_with fail
      go_ret
      exact ⟨by rw [HT.out]; first | rfl | fail "ret", HV.out.trans (HA.out.mono (by omega))⟩
    | false =>
      have hnc : exNone e.c = false := hN2
      have hxc : exV 2 e.c = true := by unfold partV at hpc; rw [hnc] at hpc; simpa using hpc
      obtain ⟨T2, hT2⟩ : ∃ T2, T2 = fmtE 2 e.c := ⟨_, rfl⟩
      have ET2 := Lib.hid (show T2 = e.c.txt from hT2.trans (fmtE_ok hxc))
      have hts2 : T2.size ≤ 50000 := by rw [ET2.out]; exact txt_ok hxc
      have HT := Lib.hid (show fmtEl e = (((⟨#[60, 45, 91]⟩ ++ e.v) ++ (⟨#[58]⟩ ++ T1)) ++ (⟨#[63]⟩ ++ T2)) ++ ⟨#[93, 45]⟩ by rw [HT0.out, ET1.out, ET2.out]; simp only [elTxt, elIn, hnl, hnc, elFr, elBk, hD, ByteArray.append_assoc]; rfl)
      clear hN2 hnc hnl hxc
      have o0 : (9223372036854775807 < 3 + e.v.size) = False := eq_false (by omega)
      have o1 : (9223372036854775807 < 1 + T1.size) = False := eq_false (by omega)
      have o2 : (9223372036854775807 < 3 + e.v.size + (1 + T1.size)) = False := eq_false (by omega)
      have o3 : (9223372036854775807 < 1 + T2.size) = False := eq_false (by omega)
      have o4 : (9223372036854775807 < 3 + e.v.size + (1 + T1.size) + (1 + T2.size)) = False := eq_false (by omega)
      have o5 : (9223372036854775807 < 3 + e.v.size + (1 + T1.size) + (1 + T2.size) + 2) = False := eq_false (by omega)
      go_wp2_with fail
      refine (formatExpr_any e.c _ 2 B _ (HCA.out _ HA.out) (by omega) s4 HS5.out (HVA.out _ HA.out).1).mono ?_
      rintro en w5 ⟨rfl, hb⟩
      rw [← hT2]
      have fb'' := keepc hb (by omega) fb'
      have hz5 : w1.heap.size < w5.heap.size := by have := hb.size; omega
      have HA := Lib.hid (HA.out.trans (hb.mono (by omega)))
      clear hb hz c0 c1 c2 c3 c4 c5 c6 c7 c8
      obtain ⟨hz, c0, c1, c2, c3, c4, c5, c6, c7, c8⟩ := HK.out _ HA.out
      clear hT2
      go_wp2_with fail
      go_ret
      exact ⟨by rw [HT.out]; first | rfl | fail "ret", HV.out.trans (HA.out.mono (by omega))⟩

set_option maxRecDepth 100000 in
set_option maxHeartbeats 8000000 in
theorem fmtElI3 (e : El) (p p' : Option Addr) (cap cap' : Nat) (B : Nat) (w : World) (hu : e.At B w (.agg #[.bool e.n, .string e.v, .int .i64 e.l.op, .string e.l.a, .slice p e.l.ks.list.length cap, .int .i64 e.c.op, .string e.c.a, .slice p' e.c.ks.list.length cap', .int .i64 3])) (hB : B ≤ w.heap.size) (hs : e.Sm) (hD : e.d = 3) (hV : elemV e = true) (hvars : VarsF w) :
    Calls Tryd.prog 10 #[.agg #[.bool e.n, .string e.v, .int .i64 e.l.op, .string e.l.a, .slice p e.l.ks.list.length cap, .int .i64 e.c.op, .string e.c.a, .slice p' e.c.ks.list.length cap', .int .i64 3]] w fun en w' => en = .returned (.string (fmtEl e)) ∧ Below w.heap.size w w' := by
  have HU := Lib.hid hu
  have HS := Lib.hid hs
  obtain ⟨s1, s2, s3, s4, s5⟩ := hs
  have HS3 := Lib.hid s3
  have HS5 := Lib.hid s5
  obtain ⟨k0, k0', hk0, hl, hc⟩ := hu
  simp only [Value.agg.injEq, Array.mk.injEq, List.cons.injEq, true_and, and_true] at hk0
  have hk1 := hk0.1
  have hk2 := hk0.2
  clear hk0
  subst hk1
  obtain ⟨hk2, hk3⟩ := hk2
  clear hk3
  subst hk2
  have HL := Lib.hid hl
  have HC := Lib.hid hc
  have HVV := Lib.hid hvars
  clear hl hc s3 s5 hvars
  obtain ⟨W0, eW⟩ : ∃ W0, W0 = w.alloc (.cells #[.bool e.n, .string e.v, .int .i64 e.l.op, .string e.l.a, .slice p e.l.ks.list.length cap, .int .i64 e.c.op, .string e.c.a, .slice p' e.c.ks.list.length cap', .int .i64 3] 27) := ⟨_, rfl⟩
  have HV := Lib.hid (show Below w.heap.size w W0 by rw [eW]; exact (Below.refl w.heap.size w).alloc (by simp) _)
  have hs0 : w.heap.size + 1 ≤ W0.heap.size := by rw [eW]; simp
  have HK := Lib.hid (show ∀ wk, Below (w.heap.size + 1) W0 wk → w.heap.size + 1 ≤ wk.heap.size ∧ wk.cell? ⟨w.heap.size, 0, none⟩ = some (.bool e.n) ∧ wk.cell? ⟨w.heap.size, 1, none⟩ = some (.string e.v) ∧ wk.cell? ⟨w.heap.size, 2, none⟩ = some (.int .i64 e.l.op) ∧ wk.cell? ⟨w.heap.size, 3, none⟩ = some (.string e.l.a) ∧ wk.cell? ⟨w.heap.size, 4, none⟩ = some (.slice p e.l.ks.list.length cap) ∧ wk.cell? ⟨w.heap.size, 5, none⟩ = some (.int .i64 e.c.op) ∧ wk.cell? ⟨w.heap.size, 6, none⟩ = some (.string e.c.a) ∧ wk.cell? ⟨w.heap.size, 7, none⟩ = some (.slice p' e.c.ks.list.length cap') ∧ wk.cell? ⟨w.heap.size, 8, none⟩ = some (.int .i64 3) from
    fun wk hk => by rw [eW] at hk; exact ⟨by have := hk.size; simp at this; omega, keepc hk (by omega) (by simp [go_sem]), keepc hk (by omega) (by simp [go_sem]), keepc hk (by omega) (by simp [go_sem]), keepc hk (by omega) (by simp [go_sem]), keepc hk (by omega) (by simp [go_sem]), keepc hk (by omega) (by simp [go_sem]), keepc hk (by omega) (by simp [go_sem]), keepc hk (by omega) (by simp [go_sem]), keepc hk (by omega) (by simp [go_sem])⟩)
  have HA := Lib.hid (Below.refl (w.heap.size + 1) W0)
  have HEA := Lib.hid (show ∀ wk, Below (w.heap.size + 1) W0 wk → e.At B wk (.agg #[.bool e.n, .string e.v, .int .i64 e.l.op, .string e.l.a, .slice p e.l.ks.list.length cap, .int .i64 e.c.op, .string e.c.a, .slice p' e.c.ks.list.length cap', .int .i64 3]) from fun wk hk => HU.out.below ((HV.out.trans (hk.mono (by omega))).mono hB) (Nat.le_refl _))
  have HLA := Lib.hid (show ∀ wk, Below (w.heap.size + 1) W0 wk → e.l.At B wk (.agg #[.int .i64 e.l.op, .string e.l.a, .slice p e.l.ks.list.length cap]) from fun wk hk => ⟨_, rfl, HL.out.below ((HV.out.trans (hk.mono (by omega))).mono hB) (Nat.le_refl _)⟩)
  have HCA := Lib.hid (show ∀ wk, Below (w.heap.size + 1) W0 wk → e.c.At B wk (.agg #[.int .i64 e.c.op, .string e.c.a, .slice p' e.c.ks.list.length cap']) from fun wk hk => ⟨_, rfl, HC.out.below ((HV.out.trans (hk.mono (by omega))).mono hB) (Nat.le_refl _)⟩)
  have HVA := Lib.hid (show ∀ wk, Below (w.heap.size + 1) W0 wk → VarsF wk from fun wk hk => HVV.out.below (HV.out.trans (hk.mono (by omega))))
  have EW := Lib.hid eW
  clear eW HU
  obtain ⟨_, hvs, hpl, hpc⟩ := elemV_parts hV
  have HT0 := Lib.hid (show fmtEl e = elTxt e by unfold fmtEl; rw [hV]; rfl)
  go_enter Tryd.func10, Tryd.ntmps10
  go_wp2_with fail
  rw [← EW.out]
  refine (elemValid_any e _ B _ (HEA.out _ HA.out) (by omega) HS.out (HVA.out _ HA.out).1).mono ?_
  rintro en w1 ⟨rfl, hb⟩
  have HA := Lib.hid (HA.out.trans (hb.mono (by omega)))
  clear hb
  obtain ⟨hz, c0, c1, c2, c3, c4, c5, c6, c7, c8⟩ := HK.out _ HA.out
  obtain ⟨g0, g1, g2, g3, g4, g5, g6, g7⟩ := (HVA.out _ HA.out).2
  rw [hV]
  have o0 : (9223372036854775807 < 2 + e.v.size) = False := eq_false (by omega)
  have hzl : w.heap.size < w1.heap.size := by omega
  go_wp2_with fail
  have HA := Lib.hid (HA.out.alloc (by omega) (.cells #[.string ⟨#[45, 91]⟩, .string ⟨#[93, 45]⟩] 48))
  have hz1 : w.heap.size + 1 ≤ w1.heap.size := hz
  clear hz c0 c1 c2 c3 c4 c5 c6 c7 c8 g0 g1 g2 g3 g4 g5 g6 g7
  refine (noExpr_any e.l.op e.l.a _ e.l.ks.list.length _ _).mono ?_
  rintro en w2 ⟨rfl, hb⟩
  have fb := new_cell hb (j := 1) rfl
  have hz2 : w1.heap.size < w2.heap.size := by have := hb.size; simp at this; omega
  have HA := Lib.hid (HA.out.trans (hb.mono (by simp; omega)))
  clear hb
  obtain ⟨hz, c0, c1, c2, c3, c4, c5, c6, c7, c8⟩ := HK.out _ HA.out
  cases hN1 : noneB e.l.op e.l.a e.l.ks.list.length with
  | true =>
    have hnl : exNone e.l = true := hN1
    clear hN1
    go_wp2_with fail
    refine (noExpr_any e.c.op e.c.a _ e.c.ks.list.length _ _).mono ?_
    rintro en w3 ⟨rfl, hb⟩
    have fb' := keepc hb (by omega) fb
    have hz3 : w1.heap.size < w3.heap.size := by have := hb.size; omega
    have HA := Lib.hid (HA.out.trans (hb.mono (by omega)))
    clear hb hz c0 c1 c2 c3 c4 c5 c6 c7 c8
    obtain ⟨hz, c0, c1, c2, c3, c4, c5, c6, c7, c8⟩ := HK.out _ HA.out
    cases hN2 : noneB e.c.op e.c.a e.c.ks.list.length with
    | true =>
      have hnc : exNone e.c = true := hN2
      have HT := Lib.hid (show fmtEl e = (⟨#[45, 91]⟩ ++ e.v) ++ ⟨#[93, 45]⟩ by rw [HT0.out]; simp only [elTxt, elIn, hnl, hnc, elFr, elBk, hD, ByteArray.append_assoc]; rfl)
      clear hN2 hnc hnl
      have o0 : (9223372036854775807 < 2 + e.v.size) = False := eq_false (by omega)
      have o1 : (9223372036854775807 < 2 + e.v.size + 2) = False := eq_false (by omega)
      go_wp2_with fail
      go_ret
      exact ⟨by rw [HT.out]; first | rfl | fail "ret", HV.out.trans (HA.out.mono (by omega))⟩
    | false =>
      have hnc : exNone e.c = false := hN2
      have hxc : exV 2 e.c = true := by unfold partV at hpc; rw [hnc] at hpc; simpa using hpc
      obtain ⟨T2, hT2⟩ : ∃ T2, T2 = fmtE 2 e.c := ⟨_, rfl⟩
      have ET2 := Lib.hid (show T2 = e.c.txt from hT2.trans (fmtE_ok hxc))
      have hts2 : T2.size ≤ 50000 := by rw [ET2.out]; exact txt_ok hxc
      have HT := Lib.hid (show fmtEl e = ((⟨#[45, 91]⟩ ++ e.v) ++ (⟨#[63]⟩ ++ T2)) ++ ⟨#[93, 45]⟩ by rw [HT0.out, ET2.out]; simp only [elTxt, elIn, hnl, hnc, elFr, elBk, hD, ByteArray.append_assoc]; rfl)
      clear hN2 hnc hnl hxc
      have o0 : (9223372036854775807 < 2 + e.v.size) = False := eq_false (by omega)
      have o1 : (9223372036854775807 < 1 + T2.size) = False := eq_false (by omega)
      have o2 : (9223372036854775807 < 2 + e.v.size + (1 + T2.size)) = False := eq_false (by omega)
      have o3 : (9223372036854775807 < 2 + e.v.size + (1 + T2.size) + 2) = False := eq_false (by omega)
      go_wp2_with fail
      refine (formatExpr_any e.c _ 2 B _ (HCA.out _ HA.out) (by omega) s4 HS5.out (HVA.out _ HA.out).1).mono ?_
      rintro en w4 ⟨rfl, hb⟩
      rw [← hT2]
      have fb'' := keepc hb (by omega) fb'
      have hz4 : w1.heap.size < w4.heap.size := by have := hb.size; omega
      have HA := Lib.hid (HA.out.trans (hb.mono (by omega)))
      clear hb hz c0 c1 c2 c3 c4 c5 c6 c7 c8
      obtain ⟨hz, c0, c1, c2, c3, c4, c5, c6, c7, c8⟩ := HK.out _ HA.out
      clear hT2
      go_wp2_with fail
      go_ret
      exact ⟨by rw [HT.out]; first | rfl | fail "ret", HV.out.trans (HA.out.mono (by omega))⟩
  | false =>
    have hnl : exNone e.l = false := hN1
    have hxl : exV 1 e.l = true := by unfold partV at hpl; rw [hnl] at hpl; simpa using hpl
    obtain ⟨T1, hT1⟩ : ∃ T1, T1 = fmtE 1 e.l := ⟨_, rfl⟩
    have ET1 := Lib.hid (show T1 = e.l.txt from hT1.trans (fmtE_ok hxl))
    have hts1 : T1.size ≤ 50000 := by rw [ET1.out]; exact txt_ok hxl
    clear hN1 hxl
    have o8 : (9223372036854775807 < 1 + T1.size) = False := eq_false (by omega)
    have o9 : (9223372036854775807 < 2 + e.v.size + (1 + T1.size)) = False := eq_false (by omega)
    go_wp2_with fail
    refine (formatExpr_any e.l _ 1 B _ (HLA.out _ HA.out) (by omega) s2 HS3.out (HVA.out _ HA.out).1).mono ?_
    rintro en w3 ⟨rfl, hb⟩
    rw [← hT1]
    have fb := keepc hb (by omega) fb
    have hz3 : w1.heap.size < w3.heap.size := by have := hb.size; omega
    have HA := Lib.hid (HA.out.trans (hb.mono (by omega)))
    clear hb hz c0 c1 c2 c3 c4 c5 c6 c7 c8 hT1
    obtain ⟨hz, c0, c1, c2, c3, c4, c5, c6, c7, c8⟩ := HK.out _ HA.out
    go_wp2_with fail
    refine (noExpr_any e.c.op e.c.a _ e.c.ks.list.length _ _).mono ?_
    rintro en w4 ⟨rfl, hb⟩
    have fb' := keepc hb (by omega) fb
    have hz4 : w1.heap.size < w4.heap.size := by have := hb.size; omega
    have HA := Lib.hid (HA.out.trans (hb.mono (by omega)))
    clear hb hz c0 c1 c2 c3 c4 c5 c6 c7 c8
    obtain ⟨hz, c0, c1, c2, c3, c4, c5, c6, c7, c8⟩ := HK.out _ HA.out
    cases hN2 : noneB e.c.op e.c.a e.c.ks.list.length with
    | true =>
      have hnc : exNone e.c = true := hN2
      have HT := Lib.hid (show fmtEl e = ((⟨#[45, 91]⟩ ++ e.v) ++ (⟨#[58]⟩ ++ T1)) ++ ⟨#[93, 45]⟩ by rw [HT0.out, ET1.out]; simp only [elTxt, elIn, hnl, hnc, elFr, elBk, hD, ByteArray.append_assoc]; rfl)
      clear hN2 hnc hnl
      have o0 : (9223372036854775807 < 2 + e.v.size) = False := eq_false (by omega)
      have o1 : (9223372036854775807 < 1 + T1.size) = False := eq_false (by omega)
      have o2 : (9223372036854775807 < 2 + e.v.size + (1 + T1.size)) = False := eq_false (by omega)
      have o3 : (9223372036854775807 < 2 + e.v.size + (1 + T1.size) + 2) = False := eq_false (by omega)
      go_wp2_with fail
      go_ret
      exact ⟨by rw [HT.out]; first | rfl | fail "ret", HV.out.trans (HA.out.mono (by omega))⟩
    | false =>
      have hnc : exNone e.c = false := hN2
      have hxc : exV 2 e.c = true := by unfold partV at hpc; rw [hnc] at hpc; simpa using hpc
      obtain ⟨T2, hT2⟩ : ∃ T2, T2 = fmtE 2 e.c := ⟨_, rfl⟩
      have ET2 := Lib.hid (show T2 = e.c.txt from hT2.trans (fmtE_ok hxc))
      have hts2 : T2.size ≤ 50000 := by rw [ET2.out]; exact txt_ok hxc
      have HT := Lib.hid (show fmtEl e = (((⟨#[45, 91]⟩ ++ e.v) ++ (⟨#[58]⟩ ++ T1)) ++ (⟨#[63]⟩ ++ T2)) ++ ⟨#[93, 45]⟩ by rw [HT0.out, ET1.out, ET2.out]; simp only [elTxt, elIn, hnl, hnc, elFr, elBk, hD, ByteArray.append_assoc]; rfl)
      clear hN2 hnc hnl hxc
      have o0 : (9223372036854775807 < 2 + e.v.size) = False := eq_false (by omega)
      have o1 : (9223372036854775807 < 1 + T1.size) = False := eq_false (by omega)
      have o2 : (9223372036854775807 < 2 + e.v.size + (1 + T1.size)) = False := eq_false (by omega)
      have o3 : (9223372036854775807 < 1 + T2.size) = False := eq_false (by omega)
      have o4 : (9223372036854775807 < 2 + e.v.size + (1 + T1.size) + (1 + T2.size)) = False := eq_false (by omega)
      have o5 : (9223372036854775807 < 2 + e.v.size + (1 + T1.size) + (1 + T2.size) + 2) = False := eq_false (by omega)
      go_wp2_with fail
      refine (formatExpr_any e.c _ 2 B _ (HCA.out _ HA.out) (by omega) s4 HS5.out (HVA.out _ HA.out).1).mono ?_
      rintro en w5 ⟨rfl, hb⟩
      rw [← hT2]
      have fb'' := keepc hb (by omega) fb'
      have hz5 : w1.heap.size < w5.heap.size := by have := hb.size; omega
      have HA := Lib.hid (HA.out.trans (hb.mono (by omega)))
      clear hb hz c0 c1 c2 c3 c4 c5 c6 c7 c8
      obtain ⟨hz, c0, c1, c2, c3, c4, c5, c6, c7, c8⟩ := HK.out _ HA.out
      clear hT2
      go_wp2_with fail
      go_ret
      exact ⟨by rw [HT.out]; first | rfl | fail "ret", HV.out.trans (HA.out.mono (by omega))⟩

theorem formatElem_any (e : El) (u : Value) (B : Nat) (w : World) (hu : e.At B w u) (hB : B ≤ w.heap.size) (hs : e.Sm) (hvars : VarsF w) :
    Calls Tryd.prog 10 #[u] w fun en w' => en = .returned (.string (fmtEl e)) ∧ Below w.heap.size w w' := by
  obtain ⟨p, cap, p', cap', rfl, _, _⟩ := hu.form
  cases hV : elemV e with
  | false => exact fmtElI_bad e p p' cap cap' B w hu hB hs hV hvars
  | true =>
    rcases (elemV_parts hV).1 with hD | hD | hD | hD
    · have h := fmtElI0 e p p' cap cap' B w (by rw [hD] at hu; exact hu) hB hs hD hV hvars
      rw [hD]; exact h
    · have h := fmtElI1 e p p' cap cap' B w (by rw [hD] at hu; exact hu) hB hs hD hV hvars
      rw [hD]; exact h
    · have h := fmtElI2 e p p' cap cap' B w (by rw [hD] at hu; exact hu) hB hs hD hV hvars
      rw [hD]; exact h
    · have h := fmtElI3 e p p' cap cap' B w (by rw [hD] at hu; exact hu) hB hs hD hV hvars
      rw [hD]; exact h
end Go.Proofs.YtkehmecnoeghoaaDoor
