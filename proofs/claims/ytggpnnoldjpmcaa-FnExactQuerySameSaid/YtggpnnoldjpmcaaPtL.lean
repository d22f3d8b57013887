/- Patterns behind pointers; what treesSame asks of them. -/
import Derived.Test.YtggpnnoldjpmcaaPtHelp
import Derived.Test.YtggpnnoldjpmcaaElSame
import Derived.Test.YtggpnnoldjpmcaaTreesX
import Derived.StillTailTactics
namespace Go.Proofs.Ytggpnnoldjpmcaa
open Go.RowKit

theorem Fo.Live.det {B : Nat} {w : World} {f g : Fo} {v : Value} (h : f.Live B w v) (h' : g.Live B w v) : f = g := by
  obtain ⟨p, cap, k1, k2, k3, k4⟩ := h
  obtain ⟨p', cap', l1, l2, l3, l4⟩ := h'
  rw [k1] at l1
  simp only [Value.slice.injEq] at l1
  obtain ⟨rfl, el, rfl⟩ := l1
  rcases k4 with k4 | ⟨b1, o1, q1, _, _, k4⟩
  · rw [k4] at el
    rw [Fo.nil_of k4, Fo.nil_of (List.length_eq_zero_iff.1 el.symm)]
  · rcases l4 with l4 | ⟨b2, o2, q2, _, _, l4⟩
    · rw [l4] at el
      rw [Fo.nil_of l4, Fo.nil_of (List.length_eq_zero_iff.1 el)]
    · rw [q1] at q2; cases q2
      exact k4.det l4 el
theorem Fo.Is.det {B : Nat} {w : World} {f g : Fo} {v : Value} (h : f.Is true B w v) (h' : g.Is true B w v) : f = g := (h.2 rfl).det (h'.2 rfl)
theorem El.Nine.det {B : Nat} {w : World} {e f : El} {c : Nat → Option Value} (h : e.Nine true B w c) (k : f.Nine true B w c) : e = f := by
  obtain ⟨h0, h1, h2, h3, ⟨u, h4, h4'⟩, h5, h6, ⟨u', h7, h7'⟩, h8⟩ := h
  obtain ⟨k0, k1, k2, k3, ⟨v, k4, k4'⟩, k5, k6, ⟨v', k7, k7'⟩, k8⟩ := k
  obtain ⟨n, vr, ⟨lo, la, lk⟩, ⟨co, ca, ck⟩, d⟩ := e
  obtain ⟨n', vr', ⟨lo', la', lk'⟩, ⟨co', ca', ck'⟩, d'⟩ := f
  simp only at h0 h1 h2 h3 h4' h5 h6 h7' h8 k0 k1 k2 k3 k4' k5 k6 k7' k8
  have e0 := h0.symm.trans k0; cases e0
  have e1 := h1.symm.trans k1; cases e1
  have e2 := h2.symm.trans k2; cases e2
  have e3 := h3.symm.trans k3; cases e3
  have e4 := h4.symm.trans k4; cases e4
  have e5 := h5.symm.trans k5; cases e5
  have e6 := h6.symm.trans k6; cases e6
  have e7 := h7.symm.trans k7; cases e7
  have e8 := h8.symm.trans k8; cases e8
  rw [h4'.det k4', h7'.det k7']
theorem Pf.Row.det {B : Nat} {w : World} {f : Pf} : ∀ {g : Pf} {c : Nat → Option Value}, f.Row true B w c → g.Row true B w c → f.list.length = g.list.length → f = g := by
  induction f with
  | nil =>
    intro g c _ _ hl
    exact (Pf.nil_of (List.length_eq_zero_iff.1 hl.symm)).symm
  | cons o e k lo hi r ihk ihr =>
    intro g c h h' hl
    cases g with
    | nil => simp [Pf.list] at hl
    | cons o' e' k' lo' hi' r' =>
      obtain ⟨h1, h2, ⟨p, cap, h3, _, _, h6⟩, h7, h8, h9⟩ := h
      obtain ⟨g1, g2, ⟨p', cap', g3, _, _, g6⟩, g7, g8, g9⟩ := h'
      have e1 := h1.symm.trans g1
      have e3 := h3.symm.trans g3
      have e7 := h7.symm.trans g7
      have e8 := h8.symm.trans g8
      cases e1; cases e7; cases e8
      obtain rfl := h2.det g2
      simp only [Option.some.injEq, Value.slice.injEq] at e3
      obtain ⟨rfl, e4, rfl⟩ := e3
      have ek : k = k' := by
        rcases h6 with h6 | ⟨b1, o1, e5, _, _, h6⟩
        · rw [h6] at e4
          rw [Pf.nil_of h6, Pf.nil_of (List.length_eq_zero_iff.1 e4.symm)]
        · rcases g6 with g6 | ⟨b2, o2, e6, _, _, g6⟩
          · rw [g6] at e4
            rw [Pf.nil_of g6, Pf.nil_of (List.length_eq_zero_iff.1 e4)]
          · rw [e5] at e6; cases e6
            exact ihk h6 g6 e4
      subst ek
      rw [ihr h9 g9 (by simpa [Pf.list] using hl)]
theorem Pf.Is.det {B : Nat} {w : World} {f g : Pf} {v : Value} (h : f.Is true B w v) (h' : g.Is true B w v) : f = g := by
  obtain ⟨p, cap, k1, k2, k3, k4⟩ := h
  obtain ⟨p', cap', l1, l2, l3, l4⟩ := h'
  rw [k1] at l1
  simp only [Value.slice.injEq] at l1
  obtain ⟨rfl, el, rfl⟩ := l1
  rcases k4 with k4 | ⟨b1, o1, q1, _, _, k4⟩
  · rw [k4] at el
    rw [Pf.nil_of k4, Pf.nil_of (List.length_eq_zero_iff.1 el.symm)]
  · rcases l4 with l4 | ⟨b2, o2, q2, _, _, l4⟩
    · rw [l4] at el
      rw [Pf.nil_of l4, Pf.nil_of (List.length_eq_zero_iff.1 el)]
    · rw [q1] at q2; cases q2
      exact k4.det l4 el
/-- The pattern behind a pointer. -/
def Pt.Ptr (B : Nat) (w : World) (x : Pt) (a : Addr) : Prop :=
  ∃ b off v, a = ⟨b, off, none⟩ ∧ b < B ∧ Alive w b ∧ w.cell? ⟨b, off, none⟩ = some (.int .i64 x.op) ∧ (x.e.Nine true B w (fun i => w.cell? ⟨b, off + 1 + i, none⟩) ∧ w.cell? ⟨b, off + 11, none⟩ = some (.int .i64 x.lo) ∧ w.cell? ⟨b, off + 12, none⟩ = some (.int .i64 x.hi)) ∧ w.cell? ⟨b, off + 10, none⟩ = some v ∧ x.ks.Is true B w v
theorem Pt.Ptr.below {B B' : Nat} {w w' : World} {x : Pt} {a : Addr} (h : x.Ptr B w a) (hb : Below B w w') (hB : B ≤ B') : x.Ptr B' w' a := by
  obtain ⟨b, off, v, h1, h2, h3, h4, ⟨h5, h5', h5''⟩, h6, h7⟩ := h
  exact ⟨b, off, v, h1, by omega, h3.below hb h2, keepc hb h2 h4, ⟨h5.below hb hB fun i v _ hv => keepc hb h2 hv, keepc hb h2 h5', keepc hb h2 h5''⟩, keepc hb h2 h6, h7.below hb hB⟩
theorem Pt.Ptr.alive {B : Nat} {w : World} {x : Pt} {a : Addr} (h : x.Ptr B w a) : Alive w a.block := by
  obtain ⟨b, off, v, rfl, h2, h3, _⟩ := h; exact h3
theorem Pt.Ptr.det {B : Nat} {w : World} {x y : Pt} {a : Addr} (h : x.Ptr B w a) (h' : y.Ptr B w a) : x = y := by
  obtain ⟨b, off, v, rfl, h2, h3, h4, ⟨h5, h5', h5''⟩, h6, h7⟩ := h
  obtain ⟨b', off', v', e0, g2, g3, g4, ⟨g5, g5', g5''⟩, g6, g7⟩ := h'
  cases e0
  have e1 := h4.symm.trans g4
  have e2 := h5'.symm.trans g5'
  have e4 := h5''.symm.trans g5''
  have e3 := h6.symm.trans g6
  cases e3
  obtain ⟨op, e, ks, lo, hi⟩ := x
  obtain ⟨op', e', ks', lo', hi'⟩ := y
  simp only [Option.some.injEq, Value.int.injEq, true_and] at e1 e2 e4
  subst e1 e2 e4
  rw [show e = e' from h5.det g5, show ks = ks' from h7.det g7]
theorem Pf.Row.ptr {B : Nat} {w : World} {f : Pf} {b off : Nat} (hb : b < B) (hal : Alive w b) (h : f.Row true B w (fun i => w.cell? ⟨b, off + i, none⟩)) (k : Nat) (hk : k < f.list.length) : f.list[k].Ptr B w ⟨b, off + k * 13, none⟩ := by
  obtain ⟨h0, h1, ⟨v, h2, h3⟩, h4, h5⟩ := h.get k hk
  simp only [] at h0 h1 h2 h4 h5
  refine ⟨b, off + k * 13, v, rfl, hb, hal, ?_, ⟨?_, ?_, ?_⟩, ?_, h3⟩
  · rw [show off + k * 13 = off + (k * 13 + 0) by omega]; exact h0
  · have e : (fun i => w.cell? ⟨b, off + (k * 13 + (1 + i)), none⟩) = (fun i => w.cell? ⟨b, off + k * 13 + 1 + i, none⟩) := by funext i; congr 2; omega
    rw [← e]; exact h1
  · rw [show off + k * 13 + 11 = off + (k * 13 + 11) by omega]; exact h4
  · rw [show off + k * 13 + 12 = off + (k * 13 + 12) by omega]; exact h5
  · rw [show off + k * 13 + 10 = off + (k * 13 + 10) by omega]; exact h2
theorem Pf.Is.kids {B : Nat} {w : World} {f : Pf} {v : Value} (h : f.Is true B w v) : KidsAt 13 (fun w (e : Pt) x => e.Ptr B w x) w v f.list := by
  obtain ⟨p, cap, h1, h2, h3, h4⟩ := h
  refine ⟨p, cap, h1, h2, h3, ?_⟩
  rcases h4 with h4 | ⟨b, off, e, hl, hal, h4⟩
  · exact .inl h4
  · exact .inr ⟨b, off, e, fun i hi => h4.ptr hl (hal rfl) i hi⟩
noncomputable def ptTop (x y : Pt) : Bool := (x.op == y.op) && (x.lo == y.lo) && (x.hi == y.hi) && elEq x.e y.e
theorem sumNeed (l : List Pt) : (l.map fun x => 1 + ptNeed x).sum = (Pf.of l).need := by
  induction l with
  | nil => rfl
  | cons e l ih => rw [List.map_cons, List.sum_cons, ih]; simp only [Pf.of, Pf.need]; unfold ptNeed; omega
noncomputable def ptTr : Tr Pt where
  kids x := x.ks.list
  top := ptTop
  sz x := 1 + ptNeed x
  hsz x := by rw [sumNeed, Pf.of_list]; unfold ptNeed; omega
  ext a b h1 h2 := by
    obtain ⟨o, e, k, lo, hi⟩ := a
    obtain ⟨o', e', k', lo', hi'⟩ := b
    unfold ptTop at h1
    simp only [Bool.and_eq_true, beq_iff_eq, elEq_iff] at h1
    simp only at h2
    obtain ⟨⟨⟨r1, r2⟩, r3⟩, r4⟩ := h1
    rw [r1, r2, r3, r4, ← Pf.of_list k, ← Pf.of_list k', h2]
  refl a := by simp [ptTop, elEq_iff]
noncomputable def ptEq (a b : Pt) : Bool := @decide (a = b) (Classical.propDecidable _)
theorem ptEq_true {a b : Pt} (h : a = b) : ptEq a b = true := by unfold ptEq; simp [h]
theorem ptEq_false {a b : Pt} (h : a ≠ b) : ptEq a b = false := by unfold ptEq; simp [h]

set_option maxHeartbeats 400000 in
theorem ptKids_at (b off : Nat) (v : Value) (w : World) (h : w.cell? ⟨b, off + 10, none⟩ = some v) (p : Option Addr) (l c : Nat) (hv : v = .slice p l c) :
    Calls Try.prog 93 #[.pointer (some ⟨b, off, none⟩)] w fun en w' => en = .returned v ∧ w' = w := by
  subst hv
  go_enter Try.func93, Try.ntmps93
  go_wp2_with fail
  go_ret
  exact ⟨rfl, rfl⟩
set_option maxRecDepth 100000 in
set_option maxHeartbeats 4000000 in
theorem ptTops_any (x y : Pt) (a c : Addr) (B : Nat) (w : World) (h : x.Ptr B w a) (k : y.Ptr B w c) (hB : B ≤ w.heap.size) (hn : elNeed x.e ≤ 1048576) :
    Calls Try.prog 92 #[.pointer (some a), .pointer (some c)] w fun en w' => en = .returned (.bool (ptTop x y)) ∧ Below w.heap.size w w' := by
  have hs1 := (El.sm_need hn).2.2.1
  have hs2 := (El.sm_need hn).2.2.2.2.1
  clear hn
  obtain ⟨b, off, v, rfl, h2, h3, h4, ⟨⟨n0, n1, n2, n3, ⟨u, n4, n4'⟩, n5, n6, ⟨u', n7, n7'⟩, n8⟩, h5', h5''⟩, h6, h7⟩ := h
  obtain ⟨b2, of2, v2, rfl, k2, k3, k4, ⟨⟨m0, m1, m2, m3, ⟨z, m4, m4'⟩, m5, m6, ⟨z', m7, m7'⟩, m8⟩, k5', k5''⟩, k6, k7⟩ := k
  have HL := Lib.hid (n4'.2 rfl)
  have HC := Lib.hid (n7'.2 rfl)
  have HL2 := Lib.hid (m4'.2 rfl)
  have HC2 := Lib.hid (m7'.2 rfl)
  obtain ⟨p1, c1, rfl⟩ := n4'.1.form
  obtain ⟨p2, c2, rfl⟩ := n7'.1.form
  obtain ⟨p3, c3, rfl⟩ := m4'.1.form
  obtain ⟨p4, c4, rfl⟩ := m7'.1.form
  simp only [Nat.add_zero] at n0 n1 n2 n3 n4 n5 n6 n7 n8 m0 m1 m2 m3 m4 m5 m6 m7 m8
  clear h3 h6 h7 k3 k6 k7 h2 k2 n4' n7' m4' m7'
  by_cases he : x.op = y.op
  · have q1 : (x.op == y.op) = true := beq_iff_eq.2 he
    clear he
    by_cases hlo : x.lo = y.lo
    · have q2 : (x.lo == y.lo) = true := beq_iff_eq.2 hlo
      clear hlo
      by_cases hhi : x.hi = y.hi
      · have q3 : (x.hi == y.hi) = true := beq_iff_eq.2 hhi
        have HT := Lib.hid (show ptTop x y = elEq x.e y.e by unfold ptTop; rw [q1, q2, q3]; rfl)
        clear hhi
        go_enter Try.func92, Try.ntmps92
        go_wp2_with fail
        go_still_tail 40, (by kernel_rfl)
        go_wp2_with fail
        refine (elemSame_of x.e y.e _ _ B w.drew ⟨_, _, rfl, HL.out.below (Below.refl _ _).drew (Nat.le_refl _), HC.out.below (Below.refl _ _).drew (Nat.le_refl _)⟩ ⟨_, _, rfl, HL2.out.below (Below.refl _ _).drew (Nat.le_refl _), HC2.out.below (Below.refl _ _).drew (Nat.le_refl _)⟩ (show B ≤ w.drew.heap.size from hB) hs1 hs2).mono ?_
        rintro en w1 ⟨rfl, hb1⟩
        have HB1 := Lib.hid ((Below.refl w.heap.size w).drew.trans hb1)
        clear hb1
        go_wp2_with fail
        go_ret
        exact ⟨by rw [HT.out]; rfl, HB1.out⟩
      · have q3 : (x.hi == y.hi) = false := beq_eq_false_iff_ne.2 hhi
        have HT := Lib.hid (show ptTop x y = false by unfold ptTop; rw [q3]; simp)
        clear hhi
        go_enter Try.func92, Try.ntmps92
        go_wp2_with fail
        go_quiet (fail)
        go_wp2_with fail
        go_ret
        exact ⟨by rw [HT.out]; rfl, ⟨rfl, rfl, rfl, Nat.le_refl _, fun _ _ => rfl⟩⟩
    · have q2 : (x.lo == y.lo) = false := beq_eq_false_iff_ne.2 hlo
      have HT := Lib.hid (show ptTop x y = false by unfold ptTop; rw [q2]; simp)
      clear hlo
      by_cases hhi : x.hi = y.hi
      · have q3 : (x.hi == y.hi) = true := beq_iff_eq.2 hhi
        clear hhi
        go_enter Try.func92, Try.ntmps92
        go_wp2_with fail
        go_quiet (fail)
        go_wp2_with fail
        go_ret
        exact ⟨by rw [HT.out]; rfl, ⟨rfl, rfl, rfl, Nat.le_refl _, fun _ _ => rfl⟩⟩
      · have q3 : (x.hi == y.hi) = false := beq_eq_false_iff_ne.2 hhi
        clear hhi
        go_enter Try.func92, Try.ntmps92
        go_wp2_with fail
        go_quiet (fail)
        go_wp2_with fail
        go_ret
        exact ⟨by rw [HT.out]; rfl, ⟨rfl, rfl, rfl, Nat.le_refl _, fun _ _ => rfl⟩⟩
  · have q1 : (x.op == y.op) = false := beq_eq_false_iff_ne.2 he
    have HT := Lib.hid (show ptTop x y = false by unfold ptTop; rw [q1]; rfl)
    clear he
    go_enter Try.func92, Try.ntmps92
    go_wp2_with fail
    go_quiet (fail)
    go_wp2_with fail
    go_ret
    exact ⟨by rw [HT.out]; rfl, ⟨rfl, rfl, rfl, Nat.le_refl _, fun _ _ => rfl⟩⟩
end Go.Proofs.Ytggpnnoldjpmcaa
