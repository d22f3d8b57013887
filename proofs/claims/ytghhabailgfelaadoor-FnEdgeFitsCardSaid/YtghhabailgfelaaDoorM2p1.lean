/- Lemmas on the data and the memory of this program's values: several texts in one. -/
import Derived.Test.YtghhabailgfelaaDoorExTo
import Derived.Test.YtghhabailgfelaaDoorM0p1
import Derived.Deep.RegionHeld3
import Derived.Deep.DeepCutAuto
import Derived.StillTailTactics
import Derived.Test.YtghhabailgfelaaDoorL1W
import Derived.Test.YtghhabailgfelaaDoorM1p1
namespace Go.Proofs.YtghhabailgfelaaDoor
open Go.RowKit

structure El where
  n : Bool
  v : ByteArray
  l : Ex
  c : Ex
  d : Int
/-- The value of a struct Elem. -/
def El.At (e : El) (B : Nat) (w : World) (u : Value) : Prop := ∃ k k', u = .agg #[.bool e.n, .string e.v, .int .i64 e.l.op, .string e.l.a, k, .int .i64 e.c.op, .string e.c.a, k', .int .i64 e.d] ∧ e.l.ks.In B w k ∧ e.c.ks.In B w k'
theorem El.At.below {e : El} {B B' : Nat} {w w' : World} {u : Value} (h : e.At B w u) (hb : Below B w w') (hB : B ≤ B') : e.At B' w' u := by
  obtain ⟨k, k', h1, h2, h3⟩ := h; exact ⟨k, k', h1, h2.below hb hB, h3.below hb hB⟩
theorem El.At.form {e : El} {B : Nat} {w : World} {u : Value} (h : e.At B w u) : ∃ p cap p' cap', u = .agg #[.bool e.n, .string e.v, .int .i64 e.l.op, .string e.l.a, .slice p e.l.ks.list.length cap, .int .i64 e.c.op, .string e.c.a, .slice p' e.c.ks.list.length cap', .int .i64 e.d] ∧ e.l.ks.In B w (.slice p e.l.ks.list.length cap) ∧ e.c.ks.In B w (.slice p' e.c.ks.list.length cap') := by
  obtain ⟨k, k', h1, h2, h3⟩ := h
  obtain ⟨p, cap, rfl⟩ := h2.form
  obtain ⟨p', cap', rfl⟩ := h3.form
  exact ⟨p, cap, p', cap', h1, h2, h3⟩
/-- An element in memory of the call's own, in the blocks F. -/
def El.Has (e : El) (u : Value) (F : List Nat) (w : World) : Prop := ∃ k k' F1 F2, u = .agg #[.bool e.n, .string e.v, .int .i64 e.l.op, .string e.l.a, k, .int .i64 e.c.op, .string e.c.a, k', .int .i64 e.d] ∧ F = F1 ++ F2 ∧ (∀ x ∈ F1, x ∉ F2) ∧ e.l.ks.Own w k F1 ∧ e.c.ks.Own w k' F2
theorem El.Has.at {e : El} {u : Value} {F : List Nat} {w : World} (h : e.Has u F w) : e.At w.heap.size w u := by
  obtain ⟨k, k', F1, F2, h1, _, _, h2, h3⟩ := h; exact ⟨k, k', h1, h2.in, h3.in⟩
theorem El.Has.chg {e : El} {u : Value} {F G : List Nat} {w w' : World} (h : e.Has u F w) (hc : Chg G w w') (hd : ∀ x ∈ F, x ∉ G) : e.Has u F w' := by
  obtain ⟨k, k', F1, F2, h1, rfl, h2, h3, h4⟩ := h
  exact ⟨k, k', F1, F2, h1, rfl, h2, h3.chg hc (fun x hx => hd x (List.mem_append_left _ hx)), h4.chg hc (fun x hx => hd x (List.mem_append_right _ hx))⟩
theorem El.Has.below {e : El} {u : Value} {F : List Nat} {w w' : World} (h : e.Has u F w) (hb : Below w.heap.size w w') : e.Has u F w' := h.chg (Chg.of_below hb []) (by simp)
theorem El.Has.lt {e : El} {u : Value} {F : List Nat} {w : World} (h : e.Has u F w) : ∀ x ∈ F, x < w.heap.size := by
  obtain ⟨k, k', F1, F2, h1, rfl, h2, h3, h4⟩ := h
  intro x hx
  rcases List.mem_append.1 hx with hx | hx
  · exact h3.lt x hx
  · exact h4.lt x hx
def El.Ok (e : El) : Prop := e.v.size ≤ maxLen ∧ e.l.Ok ∧ e.l.ks.Ok ∧ e.c.Ok ∧ e.c.ks.Ok ∧ I64 e.d
def elNeed (e : El) : Nat := e.v.size + exNeed e.l + exNeed e.c
theorem El.sm_need {e : El} (h : elNeed e ≤ 1048576) : e.v.size ≤ 1048576 ∧ e.l.a.size ≤ 1048576 ∧ e.l.ks.size ≤ 1048576 ∧ e.c.a.size ≤ 1048576 ∧ e.c.ks.size ≤ 1048576 ∧ e.l.ks.need ≤ 1048576 ∧ e.c.ks.need ≤ 1048576 := by
  have h1 := e.l.ks.size_need
  have h2 := e.c.ks.size_need
  unfold elNeed exNeed at h
  omega

end Go.Proofs.YtghhabailgfelaaDoor
namespace Go.Proofs.YtghhabailgfelaaDoor
open Go.RowKit

def Fo.mk : Fo → Int → Fo
  | .nil, _ => .nil
  | .cons _ _ k r, m => .cons m (mt (m + 1)) (k.mk (m + 2)) (r.mk (m + 2 + 2 * k.size))
theorem Fo.mk_len (f : Fo) : ∀ m : Int, (f.mk m).list.length = f.list.length := by
  induction f with
  | nil => intro m; rfl
  | cons o a k r _ ih => intro m; simp only [Fo.mk, Fo.list, List.length_cons, ih]
theorem Fo.mk_size (f : Fo) : ∀ m : Int, (f.mk m).size = f.size := by
  induction f with
  | nil => intro m; rfl
  | cons o a k r ihk ih => intro m; simp only [Fo.mk, Fo.size, ihk, ih]
theorem Fo.mk_app (f g : Fo) : ∀ m : Int, (f.app g).mk m = (f.mk m).app (g.mk (m + 2 * f.size)) := by
  induction f with
  | nil => intro m; simp [Fo.app, Fo.mk, Fo.size]
  | cons o a k r _ ih =>
    intro m
    simp only [Fo.app, Fo.mk, ih, Fo.size]
    congr 3
    simp only [Int.natCast_add, Int.natCast_one]; omega

/-- A row that is parted at a place: the place's cells, and the row anew when they have been changed. -/
theorem Fo.own_focus {g h : Fo} {o : Int} {a : ByteArray} {ks : Fo} {w : World} {p : Option Addr} {n cap : Nat} {F : List Nat} (hO : (g.app (.cons o a ks h)).Own w (.slice p n cap) F) :
    ∃ b kv F1 Fk F2, p = some ⟨b, 0, none⟩ ∧ F = b :: (F1 ++ (Fk ++ F2)) ∧ b < w.heap.size ∧ b ∉ Fk ∧ (∀ o, w.frozen? ⟨b, o, none⟩ = false) ∧ w.cell? ⟨b, g.list.length * 3, none⟩ = some (.int .i64 o) ∧ w.cell? ⟨b, g.list.length * 3 + 1, none⟩ = some (.string a) ∧
      w.cell? ⟨b, g.list.length * 3 + 2, none⟩ = some kv ∧ ks.Own w kv Fk ∧
      ∀ (w' : World) (o' : Int) (a' : ByteArray) (ks' : Fo), Chg (b :: Fk) w w' → (∀ i, i ≠ g.list.length * 3 → i ≠ g.list.length * 3 + 1 → w'.cell? ⟨b, i, none⟩ = w.cell? ⟨b, i, none⟩) → (∀ o, w'.frozen? ⟨b, o, none⟩ = false) →
        w'.cell? ⟨b, g.list.length * 3, none⟩ = some (.int .i64 o') → w'.cell? ⟨b, g.list.length * 3 + 1, none⟩ = some (.string a') → ks'.Own w' kv Fk → (g.app (.cons o' a' ks' h)).Own w' (.slice p n cap) F := by
  obtain ⟨p', cap', e, h1, h2, h3⟩ := hO
  cases e
  rcases h3 with ⟨h3, _⟩ | ⟨b, F', rfl, rfl, hb, hlt, hfz, hrow⟩
  · rw [Fo.list_app] at h3; simp [Fo.list] at h3
  obtain ⟨F1, F3, rfl, hd, r1, r2⟩ := Fo.orow_app.1 hrow
  obtain ⟨c0, c1, kv, Fk, F2, rfl, hd2, c2, hk, r3⟩ := Fo.orow_cons.1 r2
  have e1 : 1 + g.list.length * 3 = g.list.length * 3 + 1 := by omega
  have e2 : 2 + g.list.length * 3 = g.list.length * 3 + 2 := by omega
  rw [Nat.zero_add] at c0
  rw [e1] at c1
  rw [e2] at c2
  have hlen : ∀ (o' : Int) (a' : ByteArray) (ks' : Fo), (g.app (.cons o' a' ks' h)).list.length = (g.app (.cons o a ks h)).list.length := fun o' a' ks' => by simp [Fo.list_app, Fo.list]
  refine ⟨b, kv, F1, Fk, F2, rfl, rfl, hlt, fun hx => hb (by simp [hx]), hfz, c0, c1, c2, hk, ?_⟩
  intro w' o' a' ks' hch hcell hfz' d0 d1 hk'
  refine ⟨_, cap, by rw [hlen o' a' ks'], by rw [hlen o' a' ks']; exact h1, h2, .inr ⟨b, F1 ++ (Fk ++ F2), rfl, rfl, hb, Nat.lt_of_lt_of_le hlt hch.size, hfz', ?_⟩⟩
  refine Fo.orow_app.2 ⟨F1, Fk ++ F2, rfl, hd, r1.chg hch (fun x hx hx2 => ?_) (fun i hi => hcell i (by omega) (by omega)), ?_⟩
  · rcases List.mem_cons.1 hx2 with rfl | hx2
    · exact hb (by simp [hx])
    · exact hd x hx (by simp [hx2])
  refine Fo.orow_cons.2 ⟨by rw [Nat.zero_add]; exact d0, by rw [e1]; exact d1, kv, Fk, F2, rfl, hd2, by rw [e2]; exact (hcell _ (by omega) (by omega)).trans c2, hk', r3.chg hch (fun x hx hx2 => ?_) (fun i hi => hcell _ (by omega) (by omega))⟩
  rcases List.mem_cons.1 hx2 with rfl | hx2
  · exact hb (by simp [hx])
  · exact hd2 x hx2 hx

end Go.Proofs.YtghhabailgfelaaDoor
namespace Go.Proofs.YtghhabailgfelaaDoor
open Go.RowKit

def El.mk2 (e : El) (m : Int) : El := ⟨e.n, e.v, ⟨e.l.op, e.l.a, e.l.ks.mk m⟩, ⟨e.c.op, e.c.a, e.c.ks.mk (m + 2 * e.l.ks.size)⟩, e.d⟩
theorem El.goes (e : El) : Goes e.Has := fun _ _ _ _ _ h hc hd => h.chg hc hd

end Go.Proofs.YtghhabailgfelaaDoor
namespace Go.Proofs.YtghhabailgfelaaDoor
open Go.RowKit

/-- A drawn graph, in memory of the call's own. -/
def GX (g : Gr) (v : Value) (F : List Nat) (lo : Nat) (w : World) : Prop := g.Has v F w ∧ (∀ y ∈ F, lo ≤ y) ∧ g.Ok ∧ g.ns.length ≤ 1010 ∧ g.es.length ≤ 1010
theorem GX.chg {g : Gr} {v : Value} {F G : List Nat} {lo : Nat} {w w' : World} (h : GX g v F lo w) (hc : Chg G w w') (hG : ∀ x ∈ G, x < lo) : GX g v F lo w' :=
  ⟨h.1.chg hc (fun y hy hm => by have := hG y hm; have := h.2.1 y hy; omega), h.2⟩
theorem GX.lo {g : Gr} {v : Value} {F : List Nat} {lo lo' : Nat} {w : World} (h : GX g v F lo w) (hl : lo' ≤ lo) : GX g v F lo' w := ⟨h.1, fun y hy => Nat.le_trans hl (h.2.1 y hy), h.2.2⟩
def CaseG (w : World) (e : Ending) (w' : World) : Prop :=
  ∃ (g : Gr) (vg : Value) (Fg : List Nat), e = .returned vg ∧ GX g vg Fg w.heap.size w' ∧ Below w.heap.size w w'

end Go.Proofs.YtghhabailgfelaaDoor
namespace Go.Proofs.YtghhabailgfelaaDoor
open Go.RowKit

noncomputable def elEq (a b : El) : Bool := @decide (a = b) (Classical.propDecidable _)
theorem elEq_true {a b : El} (h : a = b) : elEq a b = true := by unfold elEq; simp [h]
theorem elEq_false {a b : El} (h : a ≠ b) : elEq a b = false := by unfold elEq; simp [h]
theorem elEq_iff {a b : El} : elEq a b = true ↔ a = b := by unfold elEq; simp
def El.Liv (e : El) (B : Nat) (w : World) (u : Value) : Prop := ∃ k k', u = .agg #[.bool e.n, .string e.v, .int .i64 e.l.op, .string e.l.a, k, .int .i64 e.c.op, .string e.c.a, k', .int .i64 e.d] ∧ e.l.ks.Live B w k ∧ e.c.ks.Live B w k'
theorem El.Has.liv {e : El} {u : Value} {F : List Nat} {w : World} (h : e.Has u F w) : e.Liv w.heap.size w u := by
  obtain ⟨k, k', F1, F2, h1, _, _, h2, h3⟩ := h; exact ⟨k, k', h1, h2.live, h3.live⟩
theorem El.Liv.below {e : El} {B B' : Nat} {w w' : World} {u : Value} (h : e.Liv B w u) (hb : Below B w w') (hB : B ≤ B') : e.Liv B' w' u := by
  obtain ⟨k, k', h1, h2, h3⟩ := h; exact ⟨k, k', h1, h2.below hb hB, h3.below hb hB⟩
theorem El.Liv.at {e : El} {B : Nat} {w : World} {u : Value} (h : e.Liv B w u) : e.At B w u := by
  obtain ⟨k, k', h1, h2, h3⟩ := h; exact ⟨k, k', h1, h2.in, h3.in⟩
end Go.Proofs.YtghhabailgfelaaDoor
namespace Go.Proofs.YtghhabailgfelaaDoor
open Go.RowKit

set_option maxRecDepth 100000 in
set_option maxHeartbeats 4000000 in
theorem elemSame_of (e f : El) (u u' : Value) (B : Nat) (w : World) (hu : e.Liv B w u) (hu' : f.Liv B w u') (hB : B ≤ w.heap.size) (s1 : e.l.ks.size ≤ 1048576) (s2 : e.c.ks.size ≤ 1048576) :
    Calls Tryd.prog 16 #[u, u'] w fun en w' => en = .returned (.bool (elEq e f)) ∧ Below w.heap.size w w' := by
  obtain ⟨k1, k2, rfl, h1, h2⟩ := hu
  obtain ⟨k3, k4, rfl, h3, h4⟩ := hu'
  obtain ⟨n, v, l, c, d⟩ := e
  obtain ⟨n', v', l', c', d'⟩ := f
  simp only at h1 h2 h3 h4 s1 s2 ⊢
  obtain ⟨p, pc, rfl⟩ := h1.in.form
  obtain ⟨q, qc, rfl⟩ := h2.in.form
  obtain ⟨p', pc', rfl⟩ := h3.in.form
  obtain ⟨q', qc', rfl⟩ := h4.in.form
  have H1 := Lib.hid h1
  have H2 := Lib.hid h2
  have H3 := Lib.hid h3
  have H4 := Lib.hid h4
  clear h1 h2 h3 h4
  obtain ⟨W0, eW⟩ : ∃ W0, W0 = (w.alloc (.cells #[.bool n, .string v, .int .i64 l.op, .string l.a, .slice p l.ks.list.length pc, .int .i64 c.op, .string c.a, .slice q c.ks.list.length qc, .int .i64 d] 31)).alloc (.cells #[.bool n', .string v', .int .i64 l'.op, .string l'.a, .slice p' l'.ks.list.length pc', .int .i64 c'.op, .string c'.a, .slice q' c'.ks.list.length qc', .int .i64 d'] 31) := ⟨_, rfl⟩
  have HV := Lib.hid (show Below w.heap.size w W0 by rw [eW]; exact ((Below.refl w.heap.size w).alloc (by simp) _).alloc (by simp) _)
  have hz0 : w.heap.size + 2 ≤ W0.heap.size := by rw [eW]; simp
  have HC := Lib.hid (show ∀ wk, Below (w.heap.size + 2) W0 wk → wk.cell? ⟨w.heap.size, 5, none⟩ = some (.int .i64 c.op) ∧ wk.cell? ⟨w.heap.size, 6, none⟩ = some (.string c.a) ∧ wk.cell? ⟨w.heap.size, 7, none⟩ = some (.slice q c.ks.list.length qc) ∧ wk.cell? ⟨w.heap.size + 1, 5, none⟩ = some (.int .i64 c'.op) ∧ wk.cell? ⟨w.heap.size + 1, 6, none⟩ = some (.string c'.a) ∧ wk.cell? ⟨w.heap.size + 1, 7, none⟩ = some (.slice q' c'.ks.list.length qc') from
    fun wk hk => by rw [eW] at hk; exact ⟨keepc hk (by omega) (by simp [go_sem]), keepc hk (by omega) (by simp [go_sem]), keepc hk (by omega) (by simp [go_sem]), keepc hk (by omega) (by simp [go_sem]), keepc hk (by omega) (by simp [go_sem]), keepc hk (by omega) (by simp [go_sem])⟩)
  have EW := Lib.hid eW
  clear eW
  by_cases hd : d = d'
  · subst hd
    by_cases hv : v = v'
    · subst hv
      by_cases hn : n = n'
      · subst hn
        by_cases hl : l = l'
        · have HL := Lib.hid hl
          clear hl
          go_enter Tryd.func16, Tryd.ntmps16
          go_wp2_with fail
          rw [← EW.out]
          refine (exprSame_live l l' _ _ B _ (H1.out.below (HV.out.mono hB) (Nat.le_refl _)) (H3.out.below (HV.out.mono hB) (Nat.le_refl _)) (by omega) (by omega)).mono ?_
          rintro en w1 ⟨hen, hb1⟩
          rw [exEq_true HL.out] at hen
          subst hen
          obtain ⟨c5, c6, c7, y5, y6, y7⟩ := HC.out _ (hb1.mono hz0)
          have HB1 := Lib.hid (HV.out.trans (hb1.mono (by omega)))
          have hz1 : w.heap.size + 2 ≤ w1.heap.size := by have := hb1.size; omega
          clear hb1
          by_cases hc : c = c'
          · have HCC := Lib.hid hc
            have HE := Lib.hid (elEq_true (show (⟨n, v, l, c, d⟩ : El) = ⟨n, v, l', c', d⟩ by rw [HL.out, hc]))
            clear hc
            go_wp2_with fail
            refine (exprSame_live c c' _ _ B _ (H2.out.below (HB1.out.mono hB) (Nat.le_refl _)) (H4.out.below (HB1.out.mono hB) (Nat.le_refl _)) (by omega) (by omega)).mono ?_
            rintro en w2 ⟨hen, hb2⟩
            rw [exEq_true HCC.out] at hen
            subst hen
            have HB2 := Lib.hid (HB1.out.trans (hb2.mono (by omega)))
            clear hb2
            go_wp2_with fail
            go_ret
            exact ⟨by rw [HE.out]; rfl, HB2.out⟩
          · have HCC := Lib.hid hc
            have HE := Lib.hid (elEq_false (show (⟨n, v, l, c, d⟩ : El) ≠ ⟨n, v, l', c', d⟩ by intro h; exact HCC.out (congrArg El.c h)))
            clear hc
            go_wp2_with fail
            refine (exprSame_live c c' _ _ B _ (H2.out.below (HB1.out.mono hB) (Nat.le_refl _)) (H4.out.below (HB1.out.mono hB) (Nat.le_refl _)) (by omega) (by omega)).mono ?_
            rintro en w2 ⟨hen, hb2⟩
            rw [exEq_false HCC.out] at hen
            subst hen
            have HB2 := Lib.hid (HB1.out.trans (hb2.mono (by omega)))
            clear hb2
            go_wp2_with fail
            go_ret
            exact ⟨by rw [HE.out]; rfl, HB2.out⟩
        · have HL := Lib.hid hl
          have HE := Lib.hid (elEq_false (show (⟨n, v, l, c, d⟩ : El) ≠ ⟨n, v, l', c', d⟩ by intro h; exact HL.out (congrArg El.l h)))
          clear hl
          go_enter Tryd.func16, Tryd.ntmps16
          go_wp2_with fail
          rw [← EW.out]
          refine (exprSame_live l l' _ _ B _ (H1.out.below (HV.out.mono hB) (Nat.le_refl _)) (H3.out.below (HV.out.mono hB) (Nat.le_refl _)) (by omega) (by omega)).mono ?_
          rintro en w1 ⟨hen, hb1⟩
          rw [exEq_false HL.out] at hen
          subst hen
          have HB1 := Lib.hid (HV.out.trans (hb1.mono (by omega)))
          clear hb1
          go_wp2_with fail
          go_ret
          exact ⟨by rw [HE.out]; rfl, HB1.out⟩
      · have HE := Lib.hid (elEq_false (show (⟨n, v, l, c, d⟩ : El) ≠ ⟨n', v, l', c', d⟩ by intro h; exact hn (congrArg El.n h)))
        have hnn : (n == n') = false := beq_eq_false_iff_ne.2 hn
        clear hn
        go_enter Tryd.func16, Tryd.ntmps16
        go_wp2_with fail
        go_ret
        exact ⟨by rw [HE.out]; rfl, by rw [← EW.out]; exact HV.out⟩
    · have HE := Lib.hid (elEq_false (show (⟨n, v, l, c, d⟩ : El) ≠ ⟨n', v', l', c', d⟩ by intro h; exact hv (congrArg El.v h)))
      obtain ⟨a1, a2⟩ := str_ne_b hv
      clear hv
      by_cases hn : n = n'
      · subst hn
        go_enter Tryd.func16, Tryd.ntmps16
        go_wp2_with fail
        go_ret
        exact ⟨by rw [HE.out]; rfl, by rw [← EW.out]; exact HV.out⟩
      · have hnn : (n == n') = false := beq_eq_false_iff_ne.2 hn
        clear hn
        go_enter Tryd.func16, Tryd.ntmps16
        go_wp2_with fail
        go_ret
        exact ⟨by rw [HE.out]; rfl, by rw [← EW.out]; exact HV.out⟩
  · have HE := Lib.hid (elEq_false (show (⟨n, v, l, c, d⟩ : El) ≠ ⟨n', v', l', c', d'⟩ by intro h; exact hd (congrArg El.d h)))
    have d1 : (d == d') = false := beq_eq_false_iff_ne.2 hd
    clear hd
    by_cases hn : n = n'
    · subst hn
      by_cases hv : v = v'
      · subst hv
        go_enter Tryd.func16, Tryd.ntmps16
        go_wp2_with fail
        go_ret
        exact ⟨by rw [HE.out]; rfl, by rw [← EW.out]; exact HV.out⟩
      · obtain ⟨a1, a2⟩ := str_ne_b hv
        clear hv
        go_enter Tryd.func16, Tryd.ntmps16
        go_wp2_with fail
        go_ret
        exact ⟨by rw [HE.out]; rfl, by rw [← EW.out]; exact HV.out⟩
    · have hnn : (n == n') = false := beq_eq_false_iff_ne.2 hn
      clear hn
      go_enter Tryd.func16, Tryd.ntmps16
      go_wp2_with fail
      go_ret
      exact ⟨by rw [HE.out]; rfl, by rw [← EW.out]; exact HV.out⟩
theorem elemSame_any (e f : El) (u u' : Value) (F F' : List Nat) (w : World) (hu : e.Has u F w) (hu' : f.Has u' F' w) (s1 : e.l.ks.size ≤ 1048576) (s2 : e.c.ks.size ≤ 1048576) :
    Calls Tryd.prog 16 #[u, u'] w fun en w' => en = .returned (.bool (elEq e f)) ∧ Below w.heap.size w w' := elemSame_of e f u u' w.heap.size w hu.liv hu'.liv (Nat.le_refl _) s1 s2
end Go.Proofs.YtghhabailgfelaaDoor
