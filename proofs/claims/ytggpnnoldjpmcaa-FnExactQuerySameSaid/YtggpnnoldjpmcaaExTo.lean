/- The laws' copies of expressions. -/
import Derived.Test.YtggpnnoldjpmcaaExHelp
import Derived.Test.YtggpnnoldjpmcaaBox
namespace Go.Proofs.Ytggpnnoldjpmcaa
open Go.RowKit

theorem Fo.app_assoc (f g h : Fo) : (f.app g).app h = f.app (g.app h) := by
  induction f with
  | nil => rfl
  | cons o a k r _ ih => simp only [Fo.app, ih]
theorem Fo.list_nil {f : Fo} (h : f.list = []) : f = .nil := by
  cases f with
  | nil => rfl
  | cons o a k r => simp [Fo.list] at h
theorem Fo.app_nil (f : Fo) : f.app .nil = f := by
  induction f with
  | nil => rfl
  | cons o a k r _ ih => simp only [Fo.app, ih]
/-- The first k of a row are copied into the block B. -/
def ToInv (f : Fo) (T : TypeId) (B : Nat) (k : Nat) (wr : World) : Prop :=
  ∃ (L : List Value) (g h : Fo) (F : List Nat), f = g.app h ∧ g.list.length = k ∧ L.length = f.list.length * 3 ∧ g.ORow wr (fun i => L[i]?) F ∧ (∀ x ∈ F, B < x) ∧ Blk wr B T L
theorem ToInv.lt {f : Fo} {T : TypeId} {B k : Nat} {wr : World} (h : ToInv f T B k wr) : B < wr.heap.size := by
  obtain ⟨L, g, h, F, _, _, _, _, _, h6⟩ := h; exact h6.lt
theorem ToInv.cells {f : Fo} {T : TypeId} {B k : Nat} {wr : World} (h : ToInv f T B k wr) (i : Nat) (hi : i < f.list.length * 3) : (∃ x, wr.cell? ⟨B, i, none⟩ = some x) ∧ wr.frozen? ⟨B, i, none⟩ = false := by
  obtain ⟨L, g, h, F, _, _, h3, _, _, h6⟩ := h
  exact ⟨⟨_, (h6.cell i).trans (List.getElem?_eq_getElem (by omega))⟩, h6.frozen i⟩
theorem ToInv.step {f : Fo} {T : TypeId} {B k : Nat} {wr w1 : World} (h : ToInv f T B k wr) (hk : k < f.list.length) (hb : Below wr.heap.size wr w1) {kv : Value} {F' : List Nat} (ho : f.list[k].ks.Own w1 kv F') (hF : ∀ x ∈ F', wr.heap.size ≤ x) :
    ToInv f T B (k + 1) (((w1.setCell ⟨B, k * 3, none⟩ (.int .i64 f.list[k].op)).setCell ⟨B, k * 3 + 1, none⟩ (.string f.list[k].a)).setCell ⟨B, k * 3 + 2, none⟩ kv) := by
  have hlt := h.lt
  obtain ⟨L, g, h, F, h1, h2, h3, h4, h5, h6⟩ := h
  have hlist : f.list = g.list ++ h.list := by rw [h1, Fo.list_app]
  cases h with
  | nil => rw [hlist] at hk; simp [Fo.list] at hk; omega
  | cons o a ks h' =>
    have he : f.list[k] = ⟨o, a, ks⟩ := by
      simp only [hlist]
      rw [List.getElem_append_right (by omega)]
      simp [h2, Fo.list]
    rw [he] at ho ⊢
    have hch : Chg [B] w1 (((w1.setCell ⟨B, k * 3, none⟩ (.int .i64 o)).setCell ⟨B, k * 3 + 1, none⟩ (.string a)).setCell ⟨B, k * 3 + 2, none⟩ kv) :=
      (((Chg.refl _ w1).setCell (by simp) _).setCell (by simp) _).setCell (by simp) _
    have hch0 : Chg [B] wr (((w1.setCell ⟨B, k * 3, none⟩ (.int .i64 o)).setCell ⟨B, k * 3 + 1, none⟩ (.string a)).setCell ⟨B, k * 3 + 2, none⟩ kv) := (Chg.of_below hb _).trans hch
    have hlen : k * 3 + 2 < L.length := by rw [h3, hlist]; simp [Fo.list]; omega
    refine ⟨((L.set (k * 3) (.int .i64 o)).set (k * 3 + 1) (.string a)).set (k * 3 + 2) kv, g.app (.cons o a ks .nil), h', F ++ F', ?_, ?_, ?_, ?_, ?_, ?_⟩
    · rw [h1, Fo.app_assoc]; rfl
    · rw [Fo.list_app]; simp [Fo.list, h2]
    · simpa using h3
    · refine Fo.orow_app.2 ⟨F, F', rfl, fun x hx hx2 => ?_, h4.chg hch0 (fun x hx => by have := h5 x hx; simp; omega) fun i hi => ?_, ?_⟩
      · have := h4.lt x hx; have := hF x hx2; omega
      · rw [h2] at hi
        show (((L.set _ _).set _ _).set _ _)[i]? = L[i]?
        rw [List.getElem?_set_ne (by omega), List.getElem?_set_ne (by omega), List.getElem?_set_ne (by omega)]
      · rw [h2]
        refine Fo.orow_cons.2 ⟨?_, ?_, kv, F', [], by simp, by simp, ?_, ho.chg hch (fun x hx => by have := hF x hx; simp; omega), rfl⟩
        · show (((L.set _ _).set _ _).set _ _)[0 + k * 3]? = _
          rw [Nat.zero_add, List.getElem?_set_ne (by omega), List.getElem?_set_ne (by omega), List.getElem?_set_self (by omega)]
        · show (((L.set _ _).set _ _).set _ _)[1 + k * 3]? = _
          rw [show 1 + k * 3 = k * 3 + 1 by omega, List.getElem?_set_ne (by omega), List.getElem?_set_self (by simp; omega)]
        · show (((L.set _ _).set _ _).set _ _)[2 + k * 3]? = _
          rw [show 2 + k * 3 = k * 3 + 2 by omega, List.getElem?_set_self (by simp; omega)]
    · intro x hx
      rcases List.mem_append.1 hx with hx | hx
      · exact h5 x hx
      · have := hF x hx; omega
    · exact (((h6.below hb hlt).set _ _).set _ _).set _ _
theorem ToInv.done {f : Fo} {T : TypeId} {B : Nat} {wr : World} (h : ToInv f T B f.list.length wr) (hm : f.list.length ≤ maxLen) : ∃ F, f.Own wr (.slice (some ⟨B, 0, none⟩) f.list.length f.list.length) F ∧ ∀ x ∈ F, B ≤ x := by
  obtain ⟨L, g, h, F, h1, h2, h3, h4, h5, h6⟩ := h
  have hlist : f.list = g.list ++ h.list := by rw [h1, Fo.list_app]
  have hh : h = .nil := Fo.list_nil (List.eq_nil_of_length_eq_zero (by have := congrArg List.length hlist; simp at this; omega))
  subst hh
  rw [Fo.app_nil] at h1
  subst h1
  by_cases he : f.list = []
  · exact ⟨[], ⟨_, _, rfl, Nat.le_refl _, hm, .inl ⟨he, rfl⟩⟩, by simp⟩
  · refine ⟨B :: F, ⟨_, _, rfl, Nat.le_refl _, hm, .inr ⟨B, F, rfl, rfl, fun hx => by have := h5 B hx; omega, h6.lt, fun o => h6.frozen o, h4.chg (Chg.refl [] wr) (by simp) fun i _ => h6.cell i⟩⟩, ?_⟩
    intro x hx
    rcases List.mem_cons.1 hx with rfl | hx
    · exact Nat.le_refl _
    · exact Nat.le_of_lt (h5 x hx)

def ToPost (f : Fo) (w : World) (e : Ending) (w' : World) : Prop := ∃ v' F, e = .returned v' ∧ f.Own w' v' F ∧ (∀ x ∈ F, w.heap.size ≤ x) ∧ Below w.heap.size w w'
def ToFo (f : Fo) : Prop := ∀ (v : Value) (B : Nat) (w : World), f.In B w v → B ≤ w.heap.size → f.size ≤ 1048576 →
  Calls Try.prog 132 #[v] w (ToPost f w)
def ToExPost (e : Ex) (w : World) (en : Ending) (w' : World) : Prop := ∃ k' F, en = .returned (.agg #[.int .i64 e.op, .string e.a, k']) ∧ e.ks.Own w' k' F ∧ (∀ x ∈ F, w.heap.size ≤ x) ∧ Below w.heap.size w w'

set_option maxRecDepth 100000 in
set_option maxHeartbeats 1000000 in
theorem toExpr_of (e : Ex) (ih : ToFo e.ks) (k : Value) (B : Nat) (w : World) (hv : e.ks.In B w k) (hB : B ≤ w.heap.size) (hs : e.ks.size ≤ 1048576) :
    Calls Try.prog 126 #[.agg #[.int .i64 e.op, .string e.a, k]] w (ToExPost e w) := by
  have IH := Lib.hid ih
  clear ih
  obtain ⟨p, cap, rfl⟩ := hv.form
  go_enter Try.func126, Try.ntmps126
  go_wp2_with fail
  refine (IH.out _ B _ (hv.below (by ((repeat (first | with_reducible assumption | with_reducible exact Below.refl _ _ | refine Below.setCell ?_ (by (first | omega | (simp; omega) | (simp; done) | fail "sml")) _ | refine Below.drew ?_ | refine Below.alloc ?_ (by (first | omega | (simp; omega) | (simp; done) | fail "sml")) _)); first | done | fail "chs")) (Nat.le_refl _)) (by simp; omega) hs).mono ?_
  rintro e' w1 ⟨k1, F, rfl, ho, hF, hb1⟩
  have hs1 : w.heap.size + 3 ≤ w1.heap.size := by have := hb1.size; simp at this; omega
  have q0 : w1.cell? ⟨w.heap.size + 1, 0, none⟩ = some (.int .i64 0) := (hb1.cell (by simp)).trans (by simp [go_sem])
  have q1 : w1.cell? ⟨w.heap.size + 1, 1, none⟩ = some (.string ⟨#[]⟩) := (hb1.cell (by simp)).trans (by simp [go_sem])
  have q2 : w1.cell? ⟨w.heap.size + 1, 2, none⟩ = some (.slice none 0 0) := (hb1.cell (by simp)).trans (by simp [go_sem])
  have f0 : w1.frozen? ⟨w.heap.size + 1, 0, none⟩ = false := (hb1.frozen (by simp)).trans (by simp [go_sem])
  have f1 : w1.frozen? ⟨w.heap.size + 1, 1, none⟩ = false := (hb1.frozen (by simp)).trans (by simp [go_sem])
  have f2 : w1.frozen? ⟨w.heap.size + 1, 2, none⟩ = false := (hb1.frozen (by simp)).trans (by simp [go_sem])
  have r0 : w1.cell? ⟨w.heap.size + 1 + 1, 0, none⟩ = some (.int .i64 e.op) := (hb1.cell (by simp)).trans (by simp [go_sem])
  have r1 : w1.cell? ⟨w.heap.size + 1 + 1, 1, none⟩ = some (.string e.a) := (hb1.cell (by simp)).trans (by simp [go_sem])
  have r2 : w1.cell? ⟨w.heap.size + 1 + 1, 2, none⟩ = some (.slice none 0 0) := (hb1.cell (by simp)).trans (by simp [go_sem])
  have g2 : w1.frozen? ⟨w.heap.size + 1 + 1, 2, none⟩ = false := (hb1.frozen (by simp)).trans (by simp [go_sem])
  have HB1 := Lib.hid (below_past (below_past (below_past hb1)))
  have HO := Lib.hid ho
  have HF := Lib.hid (show ∀ x ∈ F, w.heap.size + 3 ≤ x from fun x hx => by have := hF x hx; simp at this; omega)
  clear hb1 ho hF
  obtain ⟨p1, c1, rfl⟩ := HO.out.in.form
  go_wp2_with fail
  refine bodyPost_ret (v := .agg #[.int .i64 e.op, .string e.a, .slice p1 e.ks.list.length c1]) (by simp [results, Try.results126, go_sem, q0, q1, q2]) rfl ⟨_, F, rfl, HO.out.chg (G := [w.heap.size + 1, w.heap.size + 1 + 1]) ?_ ?_, fun x hx => by have := HF.out x hx; omega, ?_⟩
  · exact ((((Chg.refl _ w1).setCell (by simp) _).setCell (by simp) _).setCell (by simp) _).setCell (by simp) _
  · intro x hx; have := HF.out x hx; simp; omega
  · exact (((HB1.out.setCell (by simp; omega) _).setCell (by simp) _).setCell (by simp) _).setCell (by simp) _

theorem infoExpr : (Try.prog.info? 74).map (fun i => (i.zero, i.size, i.bytes)) = some (some (.agg #[.int .i64 0, .string ⟨#[]⟩, .slice none 0 0]), 3, 48) := by kernel_rfl

set_option maxRecDepth 100000 in
set_option maxHeartbeats 1000000 in
theorem toExprS_step (f : Fo) (ih : ∀ (k : Nat) (hk : k < f.list.length), ToFo f.list[k].ks) : ToFo f := by
  intro v B w hv hB hn
  have IH := Lib.hid ih
  clear ih
  have hlen := f.len_le
  obtain ⟨p, cap, rfl⟩ := hv.form
  obtain ⟨_, hm1, hm2⟩ := hv.max
  unfold maxLen at hm2
  have HV := Lib.hid hv
  clear hv
  have hmk : ∀ w : World, (Instr.makeSlice 72 (.int .i64 (f.list.length : Int)) (.int .i64 (f.list.length : Int))).run Try.prog w = .ok (.slice (some ⟨w.heap.size, 0, none⟩) f.list.length f.list.length) (w.alloc (.cells (madeCells #[.int .i64 0, .string ⟨#[]⟩, .slice none 0 0] (f.list.length * 3)) 74)) := by
    intro w
    obtain ⟨i, hi, hzz⟩ := Option.map_eq_some_iff.1 infoExpr
    simp only [Prod.mk.injEq] at hzz
    obtain ⟨hz, hs, hb⟩ := hzz
    have hr := run_make (P := Try.prog) w 72 74 i _ Try.underlying72 hi hz .i64 .i64 f.list.length f.list.length (by omega) (Int.le_refl _) (by rw [hb]; omega) (by omega)
    rw [hs] at hr
    exact hr
  have hbk := Blk.new w (madeCells #[.int .i64 0, .string ⟨#[]⟩, .slice none 0 0] (f.list.length * 3)) 74
  have HI0 := Lib.hid (show ToInv f 74 w.heap.size 0 (w.alloc (.cells (madeCells #[.int .i64 0, .string ⟨#[]⟩, .slice none 0 0] (f.list.length * 3)) 74)) from ⟨_, .nil, f, [], rfl, rfl, by simp [madeCells], rfl, by simp, hbk⟩)
  clear hbk
  go_enter Try.func132, Try.ntmps132
  go_wp2_with fail
  go_loopw [4] (fun i wr => ∃ (k : Nat), k ≤ f.list.length ∧ i = .int .i64 k ∧ ToInv f 74 w.heap.size k wr ∧ Below w.heap.size w wr) (fun i _ => f.list.length - (intOf i).toNat)
  case atStart => exact ⟨0, Nat.zero_le _, rfl, HI0.out, (Below.refl _ _).alloc (Nat.le_refl _) _⟩
  case round =>
    obtain ⟨k, hk, rfl, hinv, hbw⟩ := hrel
    have hsz := hbw.size
    have hlt := hinv.lt
    have HB := Lib.hid hbw
    have HI := Lib.hid hinv
    clear hbw hinv
    by_cases hlt2 : k < f.list.length
    · obtain ⟨b, off, q, n, c, rfl, hb, c0, c1, c2, hin⟩ := (HV.out.below (HB.out.mono hB) (Nat.le_refl _)).get k hlt2
      have hih := IH.out k hlt2
      have hsize := f.size_get k hlt2
      have hstep := fun (w1 : World) (hb : Below wr.heap.size wr w1) (kv : Value) (F' : List Nat) (ho : f.list[k].ks.Own w1 kv F') (hF : ∀ x ∈ F', wr.heap.size ≤ x) => HI.out.step hlt2 hb ho hF
      obtain ⟨x, ex⟩ : ∃ x, x = f.list[k] := ⟨_, rfl⟩
      rw [← ex] at c0 c1 hin hih hsize hstep
      have HIN := Lib.hid hin
      have HH := Lib.hid hih
      have HS := Lib.hid hstep
      clear ex hin hih hstep
      go_wp2_with fail
      refine (toExpr_of x HH.out _ B _ HIN.out (by omega) (by omega)).mono ?_
      rintro e w1 ⟨k1, F1, rfl, ho, hF, hb1⟩
      have HN := Lib.hid (HS.out w1 hb1 k1 F1 ho hF)
      have HB1 := Lib.hid (HB.out.trans (hb1.mono hsz))
      have hw1 : w.heap.size < w1.heap.size := Nat.lt_of_lt_of_le hlt hb1.size
      have HC := Lib.hid (fun i (hi : i < f.list.length * 3) => HI.out.cells i hi)
      obtain ⟨⟨d0, e0⟩, g0⟩ := HC.out (k * 3) (by omega)
      obtain ⟨⟨d1, e1⟩, g1⟩ := HC.out (k * 3 + 1) (by omega)
      obtain ⟨⟨d2, e2⟩, g2⟩ := HC.out (k * 3 + 2) (by omega)
      have e0' := keepc hb1 hlt e0
      have e1' := keepc hb1 hlt e1
      have e2' := keepc hb1 hlt e2
      have g0' : w1.frozen? ⟨w.heap.size, k * 3, none⟩ = false := (hb1.frozen (p := ⟨w.heap.size, k * 3, none⟩) hlt).trans g0
      have g1' : w1.frozen? ⟨w.heap.size, k * 3 + 1, none⟩ = false := (hb1.frozen (p := ⟨w.heap.size, k * 3 + 1, none⟩) hlt).trans g1
      have g2' : w1.frozen? ⟨w.heap.size, k * 3 + 2, none⟩ = false := (hb1.frozen (p := ⟨w.heap.size, k * 3 + 2, none⟩) hlt).trans g2
      obtain ⟨p1, c1', rfl⟩ := ho.in.form
      clear hb1 ho hF e0 e1 e2 g0 g1 g2
      go_wp2_with fail
      go_roundw
      case rel => exact ⟨k + 1, by omega, by go_num, HN.out, ((HB1.out.setCell (Nat.le_refl _) _).setCell (Nat.le_refl _) _).setCell (Nat.le_refl _) _⟩
      case measure => simp [intOf]; omega
    · obtain rfl : k = f.list.length := by omega
      obtain ⟨F, ho, hF⟩ := HI.out.done (by unfold maxLen; omega)
      have HO := Lib.hid ho
      have HF := Lib.hid hF
      clear ho hF
      go_wp2_with fail
      go_ret
      exact ⟨_, F, rfl, HO.out, HF.out, HB.out⟩
theorem toExprS_any (f : Fo) : ToFo f := Fo.by_parts toExprS_step f
theorem toExpr_any (e : Ex) (v : Value) (B : Nat) (w : World) (hv : e.At B w v) (hB : B ≤ w.heap.size) (hs : e.ks.size ≤ 1048576) :
    Calls Try.prog 126 #[v] w fun en w' => ∃ v' F, en = .returned v' ∧ e.Has v' F w' ∧ (∀ x ∈ F, w.heap.size ≤ x) ∧ Below w.heap.size w w' := by
  obtain ⟨k, rfl, hk⟩ := hv
  refine (toExpr_of e (toExprS_any e.ks) k B w hk hB hs).mono ?_
  rintro en w' ⟨k', F, rfl, ho, hF, hb⟩
  exact ⟨_, F, rfl, ⟨k', rfl, ho⟩, hF, hb⟩
end Go.Proofs.Ytggpnnoldjpmcaa
