/- Expressions in memory that is alive: by pointers. -/
import Derived.Test.YtggpnnoldjpmcaaTrees
import Derived.Test.YtggpnnoldjpmcaaExHelp
import Derived.Test.YtggpnnoldjpmcaaBox
import Derived.Deep.QuietTactic
import Derived.BigQuiet
import Derived.Deep.LoopGhost
namespace Go.Proofs.Ytggpnnoldjpmcaa
open Go.RowKit

/-- As Fo.Row; every block is alive. -/
def Fo.LRow (B : Nat) (w : World) : Fo → Nat → Nat → Prop
  | .nil, _, _ => True
  | .cons o a k r, b, off => w.cell? ⟨b, off, none⟩ = some (.int .i64 o) ∧ w.cell? ⟨b, off + 1, none⟩ = some (.string a) ∧
      (∃ (p : Option Addr) (cap : Nat), w.cell? ⟨b, off + 2, none⟩ = some (.slice p k.list.length cap) ∧ k.list.length ≤ cap ∧ cap ≤ maxLen ∧
        (k.list = [] ∨ ∃ b' off', p = some ⟨b', off', none⟩ ∧ b' < B ∧ Alive w b' ∧ Fo.LRow B w k b' off')) ∧ Fo.LRow B w r b (off + 3)
def Fo.Live (B : Nat) (w : World) (f : Fo) (v : Value) : Prop :=
  ∃ (p : Option Addr) (cap : Nat), v = .slice p f.list.length cap ∧ f.list.length ≤ cap ∧ cap ≤ maxLen ∧ (f.list = [] ∨ ∃ b off, p = some ⟨b, off, none⟩ ∧ b < B ∧ Alive w b ∧ f.LRow B w b off)
theorem Fo.lrow_cons {B : Nat} {w : World} {o : Int} {a : ByteArray} {k r : Fo} {b off : Nat} :
    (Fo.cons o a k r).LRow B w b off ↔ w.cell? ⟨b, off, none⟩ = some (.int .i64 o) ∧ w.cell? ⟨b, off + 1, none⟩ = some (.string a) ∧ (∃ v, w.cell? ⟨b, off + 2, none⟩ = some v ∧ k.Live B w v) ∧ r.LRow B w b (off + 3) := by
  constructor
  · rintro ⟨h1, h2, ⟨p, cap, h3, h4⟩, h5⟩; exact ⟨h1, h2, ⟨_, h3, p, cap, rfl, h4⟩, h5⟩
  · rintro ⟨h1, h2, ⟨_, h3, p, cap, rfl, h4⟩, h5⟩; exact ⟨h1, h2, ⟨p, cap, h3, h4⟩, h5⟩
theorem Fo.LRow.below {B B' : Nat} {w w' : World} (hb : Below B w w') (hB : B ≤ B') {f : Fo} : ∀ {b off : Nat}, b < B → f.LRow B w b off → f.LRow B' w' b off := by
  induction f with
  | nil => intro b off _ _; trivial
  | cons o a k r ihk ihr =>
    intro b off hlt h
    obtain ⟨h1, h2, ⟨p, cap, h3, h4, h5, h6⟩, h7⟩ := h
    refine ⟨keepc hb hlt h1, keepc hb hlt h2, ⟨p, cap, keepc hb hlt h3, h4, h5, ?_⟩, ihr hlt h7⟩
    rcases h6 with h6 | ⟨b', off', e, hl, hal, h6⟩
    · exact .inl h6
    · exact .inr ⟨b', off', e, by omega, hal.below hb hl, ihk hl h6⟩
theorem Fo.Live.below {B B' : Nat} {w w' : World} {f : Fo} {v : Value} (h : f.Live B w v) (hb : Below B w w') (hB : B ≤ B') : f.Live B' w' v := by
  obtain ⟨p, cap, h1, h2, h3, h4⟩ := h
  refine ⟨p, cap, h1, h2, h3, ?_⟩
  rcases h4 with h4 | ⟨b, off, e, hl, hal, h4⟩
  · exact .inl h4
  · exact .inr ⟨b, off, e, by omega, hal.below hb hl, h4.below hb hB hl⟩
theorem Fo.LRow.row {B : Nat} {w : World} {f : Fo} : ∀ {b off : Nat}, f.LRow B w b off → f.Row B w b off := by
  induction f with
  | nil => intros; trivial
  | cons o a k r ihk ihr =>
    intro b off h
    obtain ⟨h1, h2, ⟨p, cap, h3, h4, h5, h6⟩, h7⟩ := h
    refine ⟨h1, h2, ⟨p, cap, h3, h4, h5, ?_⟩, ihr h7⟩
    rcases h6 with h6 | ⟨b', off', e, hl, _, h6⟩
    · exact .inl h6
    · exact .inr ⟨b', off', e, hl, ihk h6⟩
theorem Fo.Live.in {B : Nat} {w : World} {f : Fo} {v : Value} (h : f.Live B w v) : f.In B w v := by
  obtain ⟨p, cap, h1, h2, h3, h4⟩ := h
  refine ⟨p, cap, h1, h2, h3, ?_⟩
  rcases h4 with h4 | ⟨b, off, e, hl, _, h4⟩
  · exact .inl h4
  · exact .inr ⟨b, off, e, hl, h4.row⟩
theorem Fo.ORow.lrow {w : World} {f : Fo} : ∀ {b off : Nat} {c : Nat → Option Value} {F : List Nat}, f.ORow w c F → (∀ i, i < f.list.length * 3 → c i = w.cell? ⟨b, off + i, none⟩) → f.LRow w.heap.size w b off := by
  induction f with
  | nil => intros; trivial
  | cons o a k r ihk ihr =>
    intro b off c F h hc
    obtain ⟨h1, h2, p, cap, F1, F2, h3, h4, h5, h6, h7, h8, h9⟩ := h
    simp only [Fo.list, List.length_cons] at hc
    refine ⟨(hc 0 (by omega)).symm.trans h1, (hc 1 (by omega)).symm.trans h2, ⟨p, cap, (hc 2 (by omega)).symm.trans h5, h6, h7, ?_⟩, ihr h9 fun i hi => ?_⟩
    · rcases h8 with ⟨h8, _⟩ | ⟨b', F', e, h10, h11, h12, h13, h14⟩
      · exact .inl h8
      · by_cases hk : k.list = []
        · exact .inl hk
        · refine .inr ⟨b', 0, e, h12, ?_, ihk h14 fun i _ => by rw [Nat.zero_add]⟩
          cases k with
          | nil => exact absurd rfl hk
          | cons o' a' k' r' => exact Alive.of_cell (Fo.orow_cons.1 h14).1 h13
    · rw [hc (i + 3) (by omega), show off + 3 + i = off + (i + 3) by omega]
theorem Fo.Own.live {w : World} {f : Fo} {v : Value} {F : List Nat} (h : f.Own w v F) : f.Live w.heap.size w v := by
  obtain ⟨p, cap, h1, h2, h3, h4⟩ := h
  refine ⟨p, cap, h1, h2, h3, ?_⟩
  rcases h4 with ⟨h4, _⟩ | ⟨b, F', e, _, _, h6, h7, h8⟩
  · exact .inl h4
  · by_cases hk : f.list = []
    · exact .inl hk
    · refine .inr ⟨b, 0, e, h6, ?_, h8.lrow fun i _ => by rw [Nat.zero_add]⟩
      cases f with
      | nil => exact absurd rfl hk
      | cons o' a' k' r' => exact Alive.of_cell (Fo.orow_cons.1 h8).1 h7
theorem Fo.nil_of {f : Fo} (h : f.list = []) : f = .nil := by
  cases f with
  | nil => rfl
  | cons o a k r => simp [Fo.list] at h
theorem Fo.LRow.det {B : Nat} {w : World} {f : Fo} : ∀ {g : Fo} {b off : Nat}, f.LRow B w b off → g.LRow B w b off → f.list.length = g.list.length → f = g := by
  induction f with
  | nil =>
    intro g b off _ _ hl
    exact (Fo.nil_of (List.length_eq_zero_iff.1 hl.symm)).symm
  | cons o a k r ihk ihr =>
    intro g b off h h' hl
    cases g with
    | nil => simp [Fo.list] at hl
    | cons o' a' k' r' =>
      obtain ⟨h1, h2, ⟨p, cap, h3, _, _, h6⟩, h7⟩ := h
      obtain ⟨g1, g2, ⟨p', cap', g3, _, _, g6⟩, g7⟩ := h'
      have e1 := h1.symm.trans g1
      have e2 := h2.symm.trans g2
      have e3 := h3.symm.trans g3
      cases e1; cases e2
      simp only [Option.some.injEq, Value.slice.injEq] at e3
      obtain ⟨rfl, e4, rfl⟩ := e3
      have ek : k = k' := by
        rcases h6 with h6 | ⟨b1, o1, e5, _, _, h6⟩
        · rw [h6] at e4
          rw [Fo.nil_of h6, Fo.nil_of (List.length_eq_zero_iff.1 e4.symm)]
        · rcases g6 with g6 | ⟨b2, o2, e6, _, _, g6⟩
          · rw [g6] at e4
            rw [Fo.nil_of g6, Fo.nil_of (List.length_eq_zero_iff.1 e4)]
          · rw [e5] at e6; cases e6
            exact ihk h6 g6 e4
      subst ek
      rw [ihr h7 g7 (by simpa [Fo.list] using hl)]
/-- The expression behind a pointer. -/
def Ex.Ptr (B : Nat) (w : World) (e : Ex) (x : Addr) : Prop :=
  ∃ b off v, x = ⟨b, off, none⟩ ∧ b < B ∧ Alive w b ∧ w.cell? ⟨b, off, none⟩ = some (.int .i64 e.op) ∧ w.cell? ⟨b, off + 1, none⟩ = some (.string e.a) ∧ w.cell? ⟨b, off + 2, none⟩ = some v ∧ e.ks.Live B w v
theorem Ex.Ptr.below {B B' : Nat} {w w' : World} {e : Ex} {x : Addr} (h : e.Ptr B w x) (hb : Below B w w') (hB : B ≤ B') : e.Ptr B' w' x := by
  obtain ⟨b, off, v, h1, h2, h3, h4, h5, h6, h7⟩ := h
  exact ⟨b, off, v, h1, by omega, h3.below hb h2, keepc hb h2 h4, keepc hb h2 h5, keepc hb h2 h6, h7.below hb hB⟩
theorem Ex.Ptr.alive {B : Nat} {w : World} {e : Ex} {x : Addr} (h : e.Ptr B w x) : Alive w x.block := by
  obtain ⟨b, off, v, rfl, h2, h3, _⟩ := h; exact h3
theorem Ex.Ptr.det {B : Nat} {w : World} {e e' : Ex} {x : Addr} (h : e.Ptr B w x) (h' : e'.Ptr B w x) : e = e' := by
  obtain ⟨b, off, v, rfl, h2, h3, h4, h5, h6, h7⟩ := h
  obtain ⟨b', off', v', e0, g2, g3, g4, g5, g6, g7⟩ := h'
  cases e0
  have e1 := h4.symm.trans g4
  have e2 := h5.symm.trans g5
  have e3 := h6.symm.trans g6
  cases e3
  obtain ⟨op, a, ks⟩ := e
  obtain ⟨op', a', ks'⟩ := e'
  simp only [Option.some.injEq, Value.int.injEq, Value.string.injEq, true_and] at e1 e2
  subst e1 e2
  have : ks = ks' := by
    obtain ⟨p, cap, k1, k2, k3, k4⟩ := h7
    obtain ⟨p', cap', l1, l2, l3, l4⟩ := g7
    rw [k1] at l1
    simp only [Value.slice.injEq] at l1
    obtain ⟨rfl, el, rfl⟩ := l1
    simp only at el k4 l4
    rcases k4 with k4 | ⟨b1, o1, q1, _, _, k4⟩
    · rw [k4] at el
      rw [Fo.nil_of k4, Fo.nil_of (List.length_eq_zero_iff.1 el.symm)]
    · rcases l4 with l4 | ⟨b2, o2, q2, _, _, l4⟩
      · rw [l4] at el
        rw [Fo.nil_of l4, Fo.nil_of (List.length_eq_zero_iff.1 el)]
      · rw [q1] at q2; cases q2
        exact k4.det l4 el
  rw [this]
/-- The parts of a node: a slice of them. -/
def KidsAt {α : Type} (sz : Nat) (Ptr : World → α → Addr → Prop) (w : World) (v : Value) (l : List α) : Prop :=
  ∃ (p : Option Addr) (cap : Nat), v = .slice p l.length cap ∧ l.length ≤ cap ∧ cap ≤ maxLen ∧ (l = [] ∨ ∃ b off, p = some ⟨b, off, none⟩ ∧ ∀ (i : Nat) (h : i < l.length), Ptr w l[i] ⟨b, off + i * sz, none⟩)
theorem Fo.LRow.ptr {B : Nat} {w : World} {f : Fo} : ∀ {b off : Nat}, b < B → Alive w b → f.LRow B w b off → ∀ (k : Nat) (hk : k < f.list.length), f.list[k].Ptr B w ⟨b, off + k * 3, none⟩ := by
  induction f with
  | nil => intro b off _ _ _ k hk; simp [Fo.list] at hk
  | cons o a ks r _ ih =>
    intro b off hb hal h k hk
    obtain ⟨h1, h2, ⟨v, h3, h4⟩, h5⟩ := Fo.lrow_cons.1 h
    cases k with
    | zero => rw [Nat.zero_mul, Nat.add_zero]; exact ⟨b, off, v, rfl, hb, hal, h1, h2, h3, h4⟩
    | succ k =>
      have := ih hb hal h5 k (by simpa [Fo.list] using hk)
      rw [show off + 3 + k * 3 = off + (k + 1) * 3 by omega] at this
      simpa [Fo.list] using this
theorem Fo.Live.kids {B : Nat} {w : World} {f : Fo} {v : Value} (h : f.Live B w v) : KidsAt 3 (fun w (e : Ex) x => e.Ptr B w x) w v f.list := by
  obtain ⟨p, cap, h1, h2, h3, h4⟩ := h
  refine ⟨p, cap, h1, h2, h3, ?_⟩
  rcases h4 with h4 | ⟨b, off, e, hl, hal, h4⟩
  · exact .inl h4
  · exact .inr ⟨b, off, e, fun i hi => h4.ptr hl hal i hi⟩
def exTop (x y : Ex) : Bool := (x.op == y.op) && (x.a.toList == y.a.toList)
theorem bytes_ext {a b : ByteArray} (h : a.toList = b.toList) : a = b := by
  rw [ByteArray.toList_eq, ByteArray.toList_eq] at h
  obtain ⟨⟨x⟩⟩ := a
  obtain ⟨⟨y⟩⟩ := b
  simpa using h
theorem sumSz (l : List Ex) (g : Ex → Nat) (hg : ∀ e, g e = e.ks.size + 1) : (l.map g).sum = (Fo.of l).size := by
  induction l with
  | nil => rfl
  | cons e l ih => simp only [List.map_cons, List.sum_cons, ih, Fo.of, Fo.size, hg]; omega
def exTr : Tr Ex where
  kids e := e.ks.list
  top := exTop
  sz e := e.ks.size + 1
  hsz e := by rw [sumSz _ _ fun _ => rfl, Fo.of_list]; omega
  ext a b h1 h2 := by
    obtain ⟨o, s, k⟩ := a
    obtain ⟨o', s', k'⟩ := b
    unfold exTop at h1
    simp only [Bool.and_eq_true, beq_iff_eq] at h1
    simp only at h2
    rw [h1.1, bytes_ext h1.2, ← Fo.of_list k, ← Fo.of_list k', h2]
  refl a := by simp [exTop]
noncomputable def exEq (a b : Ex) : Bool := @decide (a = b) (Classical.propDecidable _)
theorem exEq_true {a b : Ex} (h : a = b) : exEq a b = true := by unfold exEq; simp [h]
theorem exEq_false {a b : Ex} (h : a ≠ b) : exEq a b = false := by unfold exEq; simp [h]

set_option maxHeartbeats 400000 in
theorem exKids_at (b off : Nat) (v : Value) (w : World) (h : w.cell? ⟨b, off + 2, none⟩ = some v) (p : Option Addr) (l c : Nat) (hv : v = .slice p l c) :
    Calls Try.prog 135 #[.pointer (some ⟨b, off, none⟩)] w fun en w' => en = .returned v ∧ w' = w := by
  subst hv
  go_enter Try.func135, Try.ntmps135
  go_wp2_with fail
  go_ret
  exact ⟨rfl, rfl⟩
set_option maxHeartbeats 1000000 in
theorem exTops_any (e f : Ex) (x y : Addr) (B : Nat) (w : World) (h : e.Ptr B w x) (k : f.Ptr B w y) :
    Calls Try.prog 134 #[.pointer (some x), .pointer (some y)] w fun en w' => en = .returned (.bool (exTop e f)) ∧ Below w.heap.size w w' := by
  obtain ⟨b, off, v, rfl, h2, h3, h4, h5, h6, h7⟩ := h
  obtain ⟨c, of2, u, rfl, k2, k3, k4, k5, k6, k7⟩ := k
  clear h3 h6 h7 k3 k6 k7 h2 k2
  by_cases he : e.op = f.op
  · have q1 : (e.op == f.op) = true := beq_iff_eq.2 he
    have HT := Lib.hid (show exTop e f = (e.a.toList == f.a.toList) by unfold exTop; rw [q1]; rfl)
    clear he
    go_enter Try.func134, Try.ntmps134
    go_wp2_with fail
    go_quiet (fail)
    go_wp2_with fail
    go_ret
    exact ⟨by rw [HT.out]; rfl, ⟨rfl, rfl, rfl, Nat.le_refl _, fun _ _ => rfl⟩⟩
  · have q1 : (e.op == f.op) = false := beq_eq_false_iff_ne.2 he
    have HT := Lib.hid (show exTop e f = false by unfold exTop; rw [q1]; rfl)
    clear he
    go_enter Try.func134, Try.ntmps134
    go_wp2_with fail
    go_quiet (fail)
    go_wp2_with fail
    go_ret
    exact ⟨by rw [HT.out]; rfl, ⟨rfl, rfl, rfl, Nat.le_refl _, fun _ _ => rfl⟩⟩
end Go.Proofs.Ytggpnnoldjpmcaa
