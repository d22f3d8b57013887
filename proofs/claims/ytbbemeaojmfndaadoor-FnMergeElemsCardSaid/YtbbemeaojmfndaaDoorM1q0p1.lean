/- Lemmas on the data and the memory of this program's values: several texts in one. -/
import Derived.Test.YtbbemeaojmfndaaDoorM0q0p1
import Derived.Test.YtbbemeaojmfndaaDoorExHelp
import Derived.Deep.QuietTactic
import Derived.BigQuiet
import Derived.Deep.LoopGhost
import Derived.Deep.RegionHeld3
import Derived.Deep.DeepCutAuto
import Derived.StillTailTactics
import Derived.Maps.AppendAt
import Derived.Outline
import Derived.WalkSmall
import Derived.Deep.RegionLaw
import Derived.Test.YtbbemeaojmfndaaDoorNum
import Derived.Test.YtbbemeaojmfndaaDoorM0q0p2
import Derived.ProofKit
import Derived.LaidMore
import Derived.LaidHandle
import Derived.MakeChecks
import Derived.Stop.LaidErr
import Derived.Stop.Joined
import Derived.Lib.LaidTab
namespace Go.Proofs.YtbbemeaojmfndaaDoor
open Go.RowKit

/-- As Fo.Row; every block is alive. -/
def Fo.LRow (B : Nat) (w : World) : Fo → Nat → Nat → Prop
  | .nil, _, _ => True
  | .cons o a k r, b, off => w.cell? ⟨b, off, none⟩ = some (.int .i64 o) ∧ w.cell? ⟨b, off + 1, none⟩ = some (.string a) ∧
      (∃ (p : Option Addr) (cap : Nat), w.cell? ⟨b, off + 2, none⟩ = some (.slice p k.list.length cap) ∧ k.list.length ≤ cap ∧ cap ≤ maxLen ∧
        (k.list = [] ∨ ∃ b' off', p = some ⟨b', off', none⟩ ∧ b' < B ∧ Alive w b' ∧ Fo.LRow B w k b' off')) ∧ Fo.LRow B w r b (off + 3)
def Fo.Live (B : Nat) (w : World) (f : Fo) (v : Value) : Prop :=
  ∃ (p : Option Addr) (cap : Nat), v = .slice p f.list.length cap ∧ f.list.length ≤ cap ∧ cap ≤ maxLen ∧ (f.list = [] ∨ ∃ b off, p = some ⟨b, off, none⟩ ∧ b < B ∧ Alive w b ∧ f.LRow B w b off)
theorem Fo.lrow_cons {B : Nat} {w : World} {o : Int} {a : ByteArray} {k r : Fo} {b off : Nat} :
    (Fo.cons o a k r).LRow B w b off ↔ w.cell? ⟨b, off, none⟩ = some (.int .i64 o) ∧ w.cell? ⟨b, off + 1, none⟩ = some (.string a) ∧ (∃ v, w.cell? ⟨b, off + 2, none⟩ = some v ∧ k.Live B w v) ∧ r.LRow B w b (off + 3) := by
  constructor
  · rintro ⟨h1, h2, ⟨p, cap, h3, h4⟩, h5⟩; exact ⟨h1, h2, ⟨_, h3, p, cap, rfl, h4⟩, h5⟩
  · rintro ⟨h1, h2, ⟨_, h3, p, cap, rfl, h4⟩, h5⟩; exact ⟨h1, h2, ⟨p, cap, h3, h4⟩, h5⟩
theorem Fo.LRow.below {B B' : Nat} {w w' : World} (hb : Below B w w') (hB : B ≤ B') {f : Fo} : ∀ {b off : Nat}, b < B → f.LRow B w b off → f.LRow B' w' b off := by
  induction f with
  | nil => intro b off _ _; trivial
  | cons o a k r ihk ihr =>
    intro b off hlt h
    obtain ⟨h1, h2, ⟨p, cap, h3, h4, h5, h6⟩, h7⟩ := h
    refine ⟨keepc hb hlt h1, keepc hb hlt h2, ⟨p, cap, keepc hb hlt h3, h4, h5, ?_⟩, ihr hlt h7⟩
    rcases h6 with h6 | ⟨b', off', e, hl, hal, h6⟩
    · exact .inl h6
    · exact .inr ⟨b', off', e, by omega, hal.below hb hl, ihk hl h6⟩
theorem Fo.Live.below {B B' : Nat} {w w' : World} {f : Fo} {v : Value} (h : f.Live B w v) (hb : Below B w w') (hB : B ≤ B') : f.Live B' w' v := by
  obtain ⟨p, cap, h1, h2, h3, h4⟩ := h
  refine ⟨p, cap, h1, h2, h3, ?_⟩
  rcases h4 with h4 | ⟨b, off, e, hl, hal, h4⟩
  · exact .inl h4
  · exact .inr ⟨b, off, e, by omega, hal.below hb hl, h4.below hb hB hl⟩
theorem Fo.LRow.row {B : Nat} {w : World} {f : Fo} : ∀ {b off : Nat}, f.LRow B w b off → f.Row B w b off := by
  induction f with
  | nil => intros; trivial
  | cons o a k r ihk ihr =>
    intro b off h
    obtain ⟨h1, h2, ⟨p, cap, h3, h4, h5, h6⟩, h7⟩ := h
    refine ⟨h1, h2, ⟨p, cap, h3, h4, h5, ?_⟩, ihr h7⟩
    rcases h6 with h6 | ⟨b', off', e, hl, _, h6⟩
    · exact .inl h6
    · exact .inr ⟨b', off', e, hl, ihk h6⟩
theorem Fo.Live.in {B : Nat} {w : World} {f : Fo} {v : Value} (h : f.Live B w v) : f.In B w v := by
  obtain ⟨p, cap, h1, h2, h3, h4⟩ := h
  refine ⟨p, cap, h1, h2, h3, ?_⟩
  rcases h4 with h4 | ⟨b, off, e, hl, _, h4⟩
  · exact .inl h4
  · exact .inr ⟨b, off, e, hl, h4.row⟩
theorem Fo.ORow.lrow {w : World} {f : Fo} : ∀ {b off : Nat} {c : Nat → Option Value} {F : List Nat}, f.ORow w c F → (∀ i, i < f.list.length * 3 → c i = w.cell? ⟨b, off + i, none⟩) → f.LRow w.heap.size w b off := by
  induction f with
  | nil => intros; trivial
  | cons o a k r ihk ihr =>
    intro b off c F h hc
    obtain ⟨h1, h2, p, cap, F1, F2, h3, h4, h5, h6, h7, h8, h9⟩ := h
    simp only [Fo.list, List.length_cons] at hc
    refine ⟨(hc 0 (by omega)).symm.trans h1, (hc 1 (by omega)).symm.trans h2, ⟨p, cap, (hc 2 (by omega)).symm.trans h5, h6, h7, ?_⟩, ihr h9 fun i hi => ?_⟩
    · rcases h8 with ⟨h8, _⟩ | ⟨b', F', e, h10, h11, h12, h13, h14⟩
      · exact .inl h8
      · by_cases hk : k.list = []
        · exact .inl hk
        · refine .inr ⟨b', 0, e, h12, ?_, ihk h14 fun i _ => by rw [Nat.zero_add]⟩
          cases k with
          | nil => exact absurd rfl hk
          | cons o' a' k' r' => exact Alive.of_cell (Fo.orow_cons.1 h14).1 h13
    · rw [hc (i + 3) (by omega), show off + 3 + i = off + (i + 3) by omega]
theorem Fo.Own.live {w : World} {f : Fo} {v : Value} {F : List Nat} (h : f.Own w v F) : f.Live w.heap.size w v := by
  obtain ⟨p, cap, h1, h2, h3, h4⟩ := h
  refine ⟨p, cap, h1, h2, h3, ?_⟩
  rcases h4 with ⟨h4, _⟩ | ⟨b, F', e, _, _, h6, h7, h8⟩
  · exact .inl h4
  · by_cases hk : f.list = []
    · exact .inl hk
    · refine .inr ⟨b, 0, e, h6, ?_, h8.lrow fun i _ => by rw [Nat.zero_add]⟩
      cases f with
      | nil => exact absurd rfl hk
      | cons o' a' k' r' => exact Alive.of_cell (Fo.orow_cons.1 h8).1 h7
theorem Fo.nil_of {f : Fo} (h : f.list = []) : f = .nil := by
  cases f with
  | nil => rfl
  | cons o a k r => simp [Fo.list] at h
theorem Fo.LRow.det {B : Nat} {w : World} {f : Fo} : ∀ {g : Fo} {b off : Nat}, f.LRow B w b off → g.LRow B w b off → f.list.length = g.list.length → f = g := by
  induction f with
  | nil =>
    intro g b off _ _ hl
    exact (Fo.nil_of (List.length_eq_zero_iff.1 hl.symm)).symm
  | cons o a k r ihk ihr =>
    intro g b off h h' hl
    cases g with
    | nil => simp [Fo.list] at hl
    | cons o' a' k' r' =>
      obtain ⟨h1, h2, ⟨p, cap, h3, _, _, h6⟩, h7⟩ := h
      obtain ⟨g1, g2, ⟨p', cap', g3, _, _, g6⟩, g7⟩ := h'
      have e1 := h1.symm.trans g1
      have e2 := h2.symm.trans g2
      have e3 := h3.symm.trans g3
      cases e1; cases e2
      simp only [Option.some.injEq, Value.slice.injEq] at e3
      obtain ⟨rfl, e4, rfl⟩ := e3
      have ek : k = k' := by
        rcases h6 with h6 | ⟨b1, o1, e5, _, _, h6⟩
        · rw [h6] at e4
          rw [Fo.nil_of h6, Fo.nil_of (List.length_eq_zero_iff.1 e4.symm)]
        · rcases g6 with g6 | ⟨b2, o2, e6, _, _, g6⟩
          · rw [g6] at e4
            rw [Fo.nil_of g6, Fo.nil_of (List.length_eq_zero_iff.1 e4)]
          · rw [e5] at e6; cases e6
            exact ihk h6 g6 e4
      subst ek
      rw [ihr h7 g7 (by simpa [Fo.list] using hl)]
/-- The expression behind a pointer. -/
def Ex.Ptr (B : Nat) (w : World) (e : Ex) (x : Addr) : Prop :=
  ∃ b off v, x = ⟨b, off, none⟩ ∧ b < B ∧ Alive w b ∧ w.cell? ⟨b, off, none⟩ = some (.int .i64 e.op) ∧ w.cell? ⟨b, off + 1, none⟩ = some (.string e.a) ∧ w.cell? ⟨b, off + 2, none⟩ = some v ∧ e.ks.Live B w v
theorem Ex.Ptr.below {B B' : Nat} {w w' : World} {e : Ex} {x : Addr} (h : e.Ptr B w x) (hb : Below B w w') (hB : B ≤ B') : e.Ptr B' w' x := by
  obtain ⟨b, off, v, h1, h2, h3, h4, h5, h6, h7⟩ := h
  exact ⟨b, off, v, h1, by omega, h3.below hb h2, keepc hb h2 h4, keepc hb h2 h5, keepc hb h2 h6, h7.below hb hB⟩
theorem Ex.Ptr.alive {B : Nat} {w : World} {e : Ex} {x : Addr} (h : e.Ptr B w x) : Alive w x.block := by
  obtain ⟨b, off, v, rfl, h2, h3, _⟩ := h; exact h3
theorem Ex.Ptr.det {B : Nat} {w : World} {e e' : Ex} {x : Addr} (h : e.Ptr B w x) (h' : e'.Ptr B w x) : e = e' := by
  obtain ⟨b, off, v, rfl, h2, h3, h4, h5, h6, h7⟩ := h
  obtain ⟨b', off', v', e0, g2, g3, g4, g5, g6, g7⟩ := h'
  cases e0
  have e1 := h4.symm.trans g4
  have e2 := h5.symm.trans g5
  have e3 := h6.symm.trans g6
  cases e3
  obtain ⟨op, a, ks⟩ := e
  obtain ⟨op', a', ks'⟩ := e'
  simp only [Option.some.injEq, Value.int.injEq, Value.string.injEq, true_and] at e1 e2
  subst e1 e2
  have : ks = ks' := by
    obtain ⟨p, cap, k1, k2, k3, k4⟩ := h7
    obtain ⟨p', cap', l1, l2, l3, l4⟩ := g7
    rw [k1] at l1
    simp only [Value.slice.injEq] at l1
    obtain ⟨rfl, el, rfl⟩ := l1
    simp only at el k4 l4
    rcases k4 with k4 | ⟨b1, o1, q1, _, _, k4⟩
    · rw [k4] at el
      rw [Fo.nil_of k4, Fo.nil_of (List.length_eq_zero_iff.1 el.symm)]
    · rcases l4 with l4 | ⟨b2, o2, q2, _, _, l4⟩
      · rw [l4] at el
        rw [Fo.nil_of l4, Fo.nil_of (List.length_eq_zero_iff.1 el)]
      · rw [q1] at q2; cases q2
        exact k4.det l4 el
  rw [this]
/-- The parts of a node: a slice of them. -/
def KidsAt {α : Type} (sz : Nat) (Ptr : World → α → Addr → Prop) (w : World) (v : Value) (l : List α) : Prop :=
  ∃ (p : Option Addr) (cap : Nat), v = .slice p l.length cap ∧ l.length ≤ cap ∧ cap ≤ maxLen ∧ (l = [] ∨ ∃ b off, p = some ⟨b, off, none⟩ ∧ ∀ (i : Nat) (h : i < l.length), Ptr w l[i] ⟨b, off + i * sz, none⟩)
theorem Fo.LRow.ptr {B : Nat} {w : World} {f : Fo} : ∀ {b off : Nat}, b < B → Alive w b → f.LRow B w b off → ∀ (k : Nat) (hk : k < f.list.length), f.list[k].Ptr B w ⟨b, off + k * 3, none⟩ := by
  induction f with
  | nil => intro b off _ _ _ k hk; simp [Fo.list] at hk
  | cons o a ks r _ ih =>
    intro b off hb hal h k hk
    obtain ⟨h1, h2, ⟨v, h3, h4⟩, h5⟩ := Fo.lrow_cons.1 h
    cases k with
    | zero => rw [Nat.zero_mul, Nat.add_zero]; exact ⟨b, off, v, rfl, hb, hal, h1, h2, h3, h4⟩
    | succ k =>
      have := ih hb hal h5 k (by simpa [Fo.list] using hk)
      rw [show off + 3 + k * 3 = off + (k + 1) * 3 by omega] at this
      simpa [Fo.list] using this
theorem Fo.Live.kids {B : Nat} {w : World} {f : Fo} {v : Value} (h : f.Live B w v) : KidsAt 3 (fun w (e : Ex) x => e.Ptr B w x) w v f.list := by
  obtain ⟨p, cap, h1, h2, h3, h4⟩ := h
  refine ⟨p, cap, h1, h2, h3, ?_⟩
  rcases h4 with h4 | ⟨b, off, e, hl, hal, h4⟩
  · exact .inl h4
  · exact .inr ⟨b, off, e, fun i hi => h4.ptr hl hal i hi⟩
def exTop (x y : Ex) : Bool := (x.op == y.op) && (x.a.toList == y.a.toList)
theorem bytes_ext {a b : ByteArray} (h : a.toList = b.toList) : a = b := by
  rw [ByteArray.toList_eq, ByteArray.toList_eq] at h
  obtain ⟨⟨x⟩⟩ := a
  obtain ⟨⟨y⟩⟩ := b
  simpa using h
theorem sumSz (l : List Ex) (g : Ex → Nat) (hg : ∀ e, g e = e.ks.size + 1) : (l.map g).sum = (Fo.of l).size := by
  induction l with
  | nil => rfl
  | cons e l ih => simp only [List.map_cons, List.sum_cons, ih, Fo.of, Fo.size, hg]; omega
def exTr : Tr Ex where
  kids e := e.ks.list
  top := exTop
  sz e := e.ks.size + 1
  hsz e := by rw [sumSz _ _ fun _ => rfl, Fo.of_list]; omega
  ext a b h1 h2 := by
    obtain ⟨o, s, k⟩ := a
    obtain ⟨o', s', k'⟩ := b
    unfold exTop at h1
    simp only [Bool.and_eq_true, beq_iff_eq] at h1
    simp only at h2
    rw [h1.1, bytes_ext h1.2, ← Fo.of_list k, ← Fo.of_list k', h2]
  refl a := by simp [exTop]
noncomputable def exEq (a b : Ex) : Bool := @decide (a = b) (Classical.propDecidable _)
theorem exEq_true {a b : Ex} (h : a = b) : exEq a b = true := by unfold exEq; simp [h]
theorem exEq_false {a b : Ex} (h : a ≠ b) : exEq a b = false := by unfold exEq; simp [h]

set_option maxHeartbeats 400000 in
theorem exKids_at (b off : Nat) (v : Value) (w : World) (h : w.cell? ⟨b, off + 2, none⟩ = some v) (p : Option Addr) (l c : Nat) (hv : v = .slice p l c) :
    Calls Tryd.prog 65 #[.pointer (some ⟨b, off, none⟩)] w fun en w' => en = .returned v ∧ w' = w := by
  subst hv
  go_enter Tryd.func65, Tryd.ntmps65
  go_wp2_with fail
  go_ret
  exact ⟨rfl, rfl⟩
set_option maxHeartbeats 1000000 in
theorem exTops_any (e f : Ex) (x y : Addr) (B : Nat) (w : World) (h : e.Ptr B w x) (k : f.Ptr B w y) :
    Calls Tryd.prog 64 #[.pointer (some x), .pointer (some y)] w fun en w' => en = .returned (.bool (exTop e f)) ∧ Below w.heap.size w w' := by
  obtain ⟨b, off, v, rfl, h2, h3, h4, h5, h6, h7⟩ := h
  obtain ⟨c, of2, u, rfl, k2, k3, k4, k5, k6, k7⟩ := k
  clear h3 h6 h7 k3 k6 k7 h2 k2
  by_cases he : e.op = f.op
  · have q1 : (e.op == f.op) = true := beq_iff_eq.2 he
    have HT := Lib.hid (show exTop e f = (e.a.toList == f.a.toList) by unfold exTop; rw [q1]; rfl)
    clear he
    go_enter Tryd.func64, Tryd.ntmps64
    go_wp2_with fail
    go_quiet (fail)
    go_wp2_with fail
    go_ret
    exact ⟨by rw [HT.out]; rfl, ⟨rfl, rfl, rfl, Nat.le_refl _, fun _ _ => rfl⟩⟩
  · have q1 : (e.op == f.op) = false := beq_eq_false_iff_ne.2 he
    have HT := Lib.hid (show exTop e f = false by unfold exTop; rw [q1]; rfl)
    clear he
    go_enter Tryd.func64, Tryd.ntmps64
    go_wp2_with fail
    go_quiet (fail)
    go_wp2_with fail
    go_ret
    exact ⟨by rw [HT.out]; rfl, ⟨rfl, rfl, rfl, Nat.le_refl _, fun _ _ => rfl⟩⟩
end Go.Proofs.YtbbemeaojmfndaaDoor
namespace Go.Proofs.YtbbemeaojmfndaaDoor
open Go.RowKit

theorem pairTyX : PairTy Tryd.prog 127 103 25 :=
  ⟨by kernel_rfl, Tryd.underlying103, by kernel_rfl, by kernel_rfl, by decide +kernel, by kernel_rfl⟩
theorem zeroB (w : World) : (zeroValue 4).run Tryd.prog w = .ok (.bool false) w := by kernel_rfl
theorem infoPX : (Tryd.prog.info? 127).map (fun i => (i.zero, i.size, i.bytes)) = some (some (.agg #[.pointer none, .pointer none]), 2, 16) := by kernel_rfl

/-- What the loop over the pairs holds. -/
structure TMX (e1 e2 : Ex) (B M : Nat) (w wr : World) (W S : List (Pr Ex)) : Prop where
  inv : TInv exTr e1 e2 W S
  ptr : ∀ r, r ∈ W ∨ r ∈ S → r.a.Ptr B wr r.p ∧ r.b.Ptr B wr r.q
  seen : Seen wr M (S.map Pr.pa)
  blw : Below M w wr
  lft : left exTr W ≤ 1048577
theorem TMX.next {e1 e2 : Ex} {B M : Nat} {w wr wr' : World} {W S : List (Pr Ex)} (h : TMX e1 e2 B M w wr W S) (hB : B ≤ M) (hb : Below M wr wr') (he : wr'.heap[M]? = wr.heap[M]?) : TMX e1 e2 B M w wr' W S :=
  ⟨h.inv, fun r hr => ⟨(h.ptr r hr).1.below (hb.mono hB) (Nat.le_refl _), (h.ptr r hr).2.below (hb.mono hB) (Nat.le_refl _)⟩,
    h.seen.next (B := B) (fun y hy => by
      obtain ⟨r, hr, rfl⟩ := List.mem_map.1 hy
      obtain ⟨⟨b, o, v, e, h1, _⟩, ⟨b', o', v', e', h2, _⟩⟩ := h.ptr r (.inr hr)
      exact ⟨by show r.p.block < B; rw [e]; exact h1, by show r.q.block < B; rw [e']; exact h2⟩) (hb.mono hB) he, h.blw.trans hb, h.lft⟩
theorem TMX.grow {e1 e2 : Ex} {B M : Nat} {w wr wr' : World} {W S : List (Pr Ex)} (h : TMX e1 e2 B M w wr W S) (hB : B ≤ M) (hb : Below wr.heap.size wr wr') : TMX e1 e2 B M w wr' W S :=
  h.next hB (hb.mono (Nat.le_of_lt h.seen.lt)) (hb.block M h.seen.lt)

theorem TMX.skip {e1 e2 : Ex} {B M : Nat} {w wr : World} {W S : List (Pr Ex)} {r : Pr Ex} (h : TMX e1 e2 B M w wr (W ++ [r]) S) (hin : r.pa ∈ S.map Pr.pa) : TMX e1 e2 B M w wr W S := by
  obtain ⟨s, hs, e⟩ := List.mem_map.1 hin
  have hr := h.ptr r (.inl (by simp))
  have hs' := h.ptr s (.inr hs)
  simp only [Pr.pa, Prod.mk.injEq] at e
  rw [← e.1, ← e.2] at hr
  refine ⟨h.inv.skip hs (hs'.1.det hr.1) (hs'.2.det hr.2), fun x hx => h.ptr x (by rcases hx with hx | hx; exact .inl (by simp [hx]); exact .inr hx), h.seen, h.blw, ?_⟩
  have := h.lft; rw [left_append] at this; omega
theorem TMX.push {e1 e2 : Ex} {B M : Nat} {w wr : World} {W S N : List (Pr Ex)} {r : Pr Ex} (h : TMX e1 e2 B M w wr (W ++ [r]) S) (hB : B ≤ M) (ht : exTop r.a r.b = true) (hl : r.a.ks.list.length = r.b.ks.list.length) (hN : KidPairs exTr r N)
    {wr' : World} (hb : Below M wr wr') (hp : ∀ s ∈ N, s.a.Ptr B wr' s.p ∧ s.b.Ptr B wr' s.q) (hs : Seen wr' M (r.pa :: S.map Pr.pa)) : TMX e1 e2 B M w wr' (W ++ N) (r :: S) := by
  refine ⟨h.inv.push ht hl hN, fun x hx => ?_, by simpa using hs, h.blw.trans hb, ?_⟩
  · have old : ∀ x, (x ∈ W ++ [r] ∨ x ∈ S) → x.a.Ptr B wr' x.p ∧ x.b.Ptr B wr' x.q := fun x hx => ⟨(h.ptr x hx).1.below (hb.mono hB) (Nat.le_refl _), (h.ptr x hx).2.below (hb.mono hB) (Nat.le_refl _)⟩
    rcases hx with hx | hx
    · rcases List.mem_append.1 hx with hx | hx
      · exact old x (.inl (by simp [hx]))
      · exact hp x hx
    · rcases List.mem_cons.1 hx with rfl | hx
      · exact old x (.inl (by simp))
      · exact old x (.inr hx)
  · have := h.lft; have := hN.left; rw [left_append, left_one] at *; omega
theorem exKids_q (b off : Nat) (v : Value) (w : World) (n : Nat) (h : w.cell? ⟨b, off + 2, none⟩ = some v) (p : Option Addr) (l c : Nat) (hv : v = .slice p l c) :
    Calls Tryd.prog 65 #[.pointer (some ⟨b, off, none⟩)] (w.drewN n) fun en w' => en = .returned v ∧ w' = w.drewN n := exKids_at b off v _ h p l c hv

/-- The pairs of the parts of two nodes whose parts are as many. -/
theorem kidsX {B : Nat} {w : World} {pp qp : Option Addr} {pc qc l : Nat} {ea eb : Ex} {xp xq : Addr} (hp : KidsAt 3 (fun w (e : Ex) x => e.Ptr B w x) w (.slice pp l pc) ea.ks.list) (hq : KidsAt 3 (fun w (e : Ex) x => e.Ptr B w x) w (.slice qp l qc) eb.ks.list) :
    ∃ N : List (Pr Ex), KidPairs exTr ⟨xp, xq, ea, eb⟩ N ∧ N.length = l ∧ (∀ s ∈ N, s.a.Ptr B w s.p ∧ s.b.Ptr B w s.q) ∧ ∀ (i : Nat) (h : i < N.length), ∃ b o b' o', pp = some ⟨b, o, none⟩ ∧ qp = some ⟨b', o', none⟩ ∧ N[i].p = ⟨b, o + i * 3, none⟩ ∧ N[i].q = ⟨b', o' + i * 3, none⟩ := by
  obtain ⟨p, c, e1, _, _, k1⟩ := hp
  obtain ⟨q, c', e2, _, _, k2⟩ := hq
  simp only [Value.slice.injEq] at e1 e2
  obtain ⟨rfl, el, rfl⟩ := e1
  obtain ⟨rfl, el', rfl⟩ := e2
  have hl : (exTr.kids ea).length = (exTr.kids eb).length := el.symm.trans el'
  by_cases h0 : l = 0
  · refine ⟨[], ⟨by show 0 = ea.ks.list.length; omega, fun i hi => by simp at hi⟩, by simp [h0], by simp, fun i hi => by simp at hi⟩
  · rcases k1 with k1 | ⟨b, o, rfl, k1⟩
    · rw [k1] at el; exact absurd el h0
    rcases k2 with k2 | ⟨b', o', rfl, k2⟩
    · rw [k2] at el'; exact absurd el' h0
    have hlen := mkPairs_length 3 b b' (exTr.kids ea) (exTr.kids eb) o o' hl
    have hget : ∀ (i : Nat) (h : i < (mkPairs 3 b b' o o' (exTr.kids ea) (exTr.kids eb)).length), ∃ (h1 : i < ea.ks.list.length) (h2 : i < eb.ks.list.length), (mkPairs 3 b b' o o' (exTr.kids ea) (exTr.kids eb))[i] = ⟨⟨b, o + i * 3, none⟩, ⟨b', o' + i * 3, none⟩, ea.ks.list[i], eb.ks.list[i]⟩ := by
      intro i h
      have h1 : i < ea.ks.list.length := by rw [hlen] at h; exact h
      have h2 : i < eb.ks.list.length := by omega
      have := mkPairs_get 3 b b' (exTr.kids ea) (exTr.kids eb) o o' i h1 h2
      rw [List.getElem?_eq_getElem h] at this
      exact ⟨h1, h2, Option.some.inj this⟩
    refine ⟨_, mkPairs_kids exTr ⟨xp, xq, ea, eb⟩ 3 b b' o o' hl, hlen.trans el.symm, fun s hs => ?_, fun i hi => ?_⟩
    · obtain ⟨i, hi, rfl⟩ := List.mem_iff_getElem.1 hs
      obtain ⟨h1, h2, e⟩ := hget i hi
      rw [e]
      exact ⟨k1 i h1, k2 i h2⟩
    · obtain ⟨h1, h2, e⟩ := hget i hi
      exact ⟨b, o, b', o', rfl, rfl, by rw [e], by rw [e]⟩
theorem own_form {w : World} {base : Nat} {e : TypeId} {size : Nat} {v : Value} {n : Nat} {xs : List Value} (h : w.ownsRow base e size v (n + 1) xs) : ∃ g cap, v = .slice (some ⟨g, 0, none⟩) (n + 1) cap := by
  rcases h.2 with ⟨_, h⟩ | ⟨g, cap, _, h, _⟩
  · omega
  · exact ⟨g, cap, h⟩
theorem step_app_pair {P : Program} {w : World} {ops : Array Oper} {o : Oper} {a : Act} {K : Act → World → Prop} {Q : Exit → Act → World → Prop} {E : Prop} (hgd : o.guard = none) (s x : Operand) (t : TypeId)
    (ho : o.op = .call { callee := .builtin .append, args := #[s, x], argTypes := #[t, t] }) (vs vx : Value) (hs : a.eval s = vs) (hx : a.eval x = vx) (R : Value → World → Prop)
    (hr : ∃ v' w', (Builtin.append_ #[t, t] o.type #[vs, vx]).run P w = .ok v' w' ∧ R v' w') (h : ∀ v' w', R v' w' → K (a.put o.dst v') w') :
    if Region.wanted o (yielded ops a.tmps) = true then Oper.wp P o a w K Q else E := by
  have hw : Region.wanted o (yielded ops a.tmps) = true := by simp [Region.wanted, hgd]
  rw [if_pos hw]
  obtain ⟨v', w', hr, hR⟩ := hr
  unfold Oper.wp execOp
  simp only [ho, resolve, invoke, builtin, Sem.run_bind, Sem.run_pure, Result.andThen_ok, List.map_toArray, List.map_cons, List.map_nil, hs, hx, hr]
  exact h v' w' hR
/-- What an append of a pair leaves. -/
def AppPX (base n M : Nat) (xs : List Value) (W2 : World) (v' : Value) (w' : World) : Prop :=
  ∃ g cap, v' = .slice (some ⟨g, 0, none⟩) n cap ∧ w'.ownsRow base 127 2 (.slice (some ⟨g, 0, none⟩) n cap) n xs ∧ Below M W2 w' ∧ w'.heap[M]? = W2.heap[M]?
theorem app_pairX (ty : TypeId) {base n M g cap : Nat} {xs : List Value} {W2 u : World} (ho : u.ownsRow base 127 2 (.slice (some ⟨g, 0, none⟩) n cap) n xs) (hbm : base = M + 1) (hn : n ≤ 4000000) (hb : Below M W2 u) (hm : u.heap[M]? = W2.heap[M]?)
    {x y : Addr} (E : World) (hE : Below u.heap.size u E) (gn : Nat) (h0 : E.cell? ⟨gn, 0, none⟩ = some (.pointer (some x))) (h1 : E.cell? ⟨gn, 1, none⟩ = some (.pointer (some y))) :
    ∃ v' w', (Builtin.append_ #[128, 128] ty #[.slice (some ⟨g, 0, none⟩) n cap, .slice (some ⟨gn, 0, none⟩) 1 1]).run Tryd.prog E = .ok v' w' ∧ AppPX base (n + 1) M (xs ++ [.pointer (some x), .pointer (some y)]) W2 v' w' := by
  obtain ⟨i0, hi, hz0, hz1, hz2⟩ := info_parts infoPX
  have hgl := ho.lt g rfl
  have hs := hE.size
  have hoE : E.ownsRow base 127 2 (.slice (some ⟨g, 0, none⟩) n cap) n xs := ho.kept ⟨hE.os, hE.tape, hE.output, hE.size, fun k hk _ => hE.block k hk⟩ (.inr (by simp [Value.ownBlock]) : _ ∨ _ ≠ (none : Option Nat))
  obtain ⟨v', w', hr, ho', hg, _, _⟩ := run_append_own_at (P := Tryd.prog) E base 128 ty 127 i0 _ 2 16 Tryd.underlying128 hi hz0 hz1 hz2 rfl (by decide) _ n xs hoE ⟨gn, 0, none⟩ 1 1 [.pointer (some x), .pointer (some y)] rfl (fun j u hj => by
      match j, hj with
      | 0, hj => simp at hj; subst hj; exact h0
      | 1, hj => simp at hj; subst hj; simpa [Addr.add] using h1) (fun u hu => by simp at hu; rcases hu with rfl | rfl <;> rfl) (by unfold maxLen; omega) (by omega) (by omega)
  obtain ⟨g', cap', rfl⟩ := own_form ho'
  refine ⟨_, w', hr, g', cap', rfl, ho', hb.trans ((hE.mono (by omega)).trans (grown_below (w := E) (g := g) hg (by omega) (by omega))), ?_⟩
  rw [← hm, ← hE.block M (by omega)]
  exact hg.block M (by omega) (by simp [Value.ownBlock]; omega)
theorem drewN_below (w : World) (n : Nat) (B : Nat) : Below B w (w.drewN n) := ⟨rfl, rfl, rfl, Nat.le_refl _, fun _ _ => rfl⟩
theorem wcells_step {N : List (Pr Ex)} (W : List (Pr Ex)) {k : Nat} (hk : k < N.length) : wcells (W ++ N.take (k + 1)) = wcells (W ++ N.take k) ++ [.pointer (some N[k].p), .pointer (some N[k].q)] := by
  rw [List.take_succ_eq_append_getElem hk, ← List.append_assoc, wcells_append (W ++ _) [N[k]], wcells_one]

set_option maxRecDepth 100000 in
set_option maxHeartbeats 4000000 in
theorem treesX_any (e1 e2 : Ex) (x1 x2 : Addr) (B : Nat) (w : World) (h1 : e1.Ptr B w x1) (h2 : e2.Ptr B w x2) (hB : B ≤ w.heap.size) (hs : exTr.sz e1 ≤ 1048577) :
    Calls Tryd.prog 63 #[.pointer (some x1), .pointer (some x2), .func (.func 64) #[] #[], .func (.func 65) #[] #[]] w fun en w' => en = .returned (.bool (exEq e1 e2)) ∧ Below w.heap.size w w' := by
  have hmm := @run_makeMap Tryd.prog
  have H0 := Lib.hid (show TMX e1 e2 B w.heap.size w ((w.alloc (.map #[] 0)).alloc (.cells #[.pointer (some x1), .pointer (some x2)] 127)) [⟨x1, x2, e1, e2⟩] [] from by
    have hb : Below w.heap.size w ((w.alloc (.map #[] 0)).alloc (.cells #[.pointer (some x1), .pointer (some x2)] 127)) := ((Below.refl _ _).alloc (Nat.le_refl _) _).alloc (by simp) _
    refine ⟨TInv.start _ _ _ _ _, fun r hr => ?_, (Seen.made w).next (B := 0) (by simp) ((Below.refl _ _).alloc (Nat.zero_le _) _) ((MapKept.heap_alloc _ _).2 _ (by simp)), hb, by rw [left_one]; exact hs⟩
    simp at hr; subst hr
    exact ⟨h1.below (hb.mono hB) (Nat.le_refl _), h2.below (hb.mono hB) (Nat.le_refl _)⟩)
  have HO0 := Lib.hid (show ((w.alloc (.map #[] 0)).alloc (.cells #[.pointer (some x1), .pointer (some x2)] 127)).ownsRow (w.heap.size + 1) 127 2 (.slice (some ⟨w.heap.size + 1, 0, none⟩) 1 1) 1 (wcells [(⟨x1, x2, e1, e2⟩ : Pr Ex)]) from by
    have := World.ownsRow_lit (base := w.heap.size + 1) (e := 127) (size := 2) (w.alloc (.map #[] 0)) #[.pointer (some x1), .pointer (some x2)] 1 (by simp) (by unfold maxLen; omega) rfl
    simpa [wcells_one] using this)
  clear h1 h2
  go_enter Tryd.func63, Tryd.ntmps63
  go_wp2_with fail
  go_loopg [10] (left exTr [⟨x1, x2, e1, e2⟩]) (fun m s wr => ∃ (W S : List (Pr Ex)) (g cap n : Nat), m = left exTr W ∧ s = .slice (some ⟨g, 0, none⟩) n cap ∧ RowKit.Hid (n = W.length) ∧ RowKit.Hid (wr.ownsRow (w.heap.size + 1) 127 2 (.slice (some ⟨g, 0, none⟩) n cap) n (wcells W)) ∧ RowKit.Hid (TMX e1 e2 B w.heap.size w wr W S))
  case atStart => exact ⟨_, _, _, _, _, rfl, rfl, Lib.hid rfl, HO0, H0⟩
  case round =>
    obtain ⟨W, S, g, cap, n, hgk, rfl, hn, HO, HM⟩ := hrel
    have HG := Lib.hid hgk
    clear hgk
    rcases List.eq_nil_or_concat W with hW | ⟨W', r, hW⟩
    · have hn0 : n = 0 := by rw [hn.out, hW]; rfl
      have HE := Lib.hid (exEq_true (show e1 = e2 by have := HM.out.inv; rw [hW] at this; exact this.done))
      clear hW
      subst hn0
      go_wp2_with fail
      go_ret
      exact ⟨by rw [HE.out]; rfl, HM.out.blw⟩
    · have hW2 : W = W' ++ [r] := by simpa using hW
      clear hW
      subst hW2
      obtain ⟨xp, xq, ea, eb⟩ := r
      obtain ⟨⟨bp, op, vp, e1, bp1, bp2, p0, p1, p2, pl⟩, ⟨bq, oq, vq, e2, bq1, bq2, q0, q1, q2, ql⟩⟩ := HM.out.ptr ⟨xp, xq, ea, eb⟩ (.inl (by simp))
      simp only at e1 e2
      subst e1 e2
      have HPL := Lib.hid pl.kids
      have HQL := Lib.hid ql.kids
      obtain ⟨pp, pc, rfl, _, hpc, _⟩ := pl
      obtain ⟨qp, qc, rfl, _, hqc, _⟩ := ql
      have hlX : (exTr.kids ea).length = ea.ks.list.length := rfl
      have hlY : (exTr.kids eb).length = eb.ks.list.length := rfl
      simp only at HPL HQL p2 q2 hpc hqc ⊢
      obtain ⟨la, hla⟩ : ∃ la, la = ea.ks.list.length := ⟨_, rfl⟩
      obtain ⟨lb, hlb⟩ : ∃ lb, lb = eb.ks.list.length := ⟨_, rfl⟩
      rw [← hla] at HPL p2 hlX
      rw [← hlb] at HQL q2 hlY
      have HLX := Lib.hid hlX
      have HLY := Lib.hid hlY
      have hlm2 : la ≤ 2000000 := by have := ea.ks.len_le; have h2 : left exTr W' + exTr.sz ea ≤ 1048577 := (by have h := HM.out.lft; rw [left_append, left_one] at h; exact h); have : exTr.sz ea = ea.ks.size + 1 := rfl; omega
      have HP2 := Lib.hid p2
      have HQ2 := Lib.hid q2
      have hlb2 : lb ≤ 9223372036854775807 := by unfold maxLen at hqc; have := HQL.out; obtain ⟨_, _, e, h1, _⟩ := this; simp only [Value.slice.injEq] at e; omega
      clear hlX hlY hla hlb
      obtain ⟨m, hm⟩ : ∃ m, m = W'.length := ⟨_, rfl⟩
      have hnm : n = m + 1 := by rw [hn.out]; simp [hm]
      subst hnm
      have hlm : m + 1 ≤ 1048577 := by have := length_left exTr (W' ++ [⟨⟨bp, op, none⟩, ⟨bq, oq, none⟩, ea, eb⟩]); have := HM.out.lft; simp at *; omega
      have hcap : m + 1 ≤ cap ∧ cap ≤ 9223372036854775807 := by
        rcases HO.out.2 with ⟨h, _⟩ | ⟨g', cap', cur, h, _, _, h1, h2, _⟩
        · cases h
        · cases h; exact ⟨h1, h2⟩
      have hg : w.heap.size + 1 ≤ g ∧ g < wr.heap.size := HO.out.lt g rfl
      have c0 : wr.cell? ⟨g, m * 2, none⟩ = some (.pointer (some ⟨bp, op, none⟩)) := by rw [HO.out.cellAt _ (by omega), hm]; exact (wcells_last W' _).1
      have c1 : wr.cell? ⟨g, m * 2 + 1, none⟩ = some (.pointer (some ⟨bq, oq, none⟩)) := by rw [HO.out.cellAt _ (by omega), hm]; exact (wcells_last W' _).2
      have HM' := Lib.hid hm
      have HOP := Lib.hid (show wr.ownsRow (w.heap.size + 1) 127 2 (.slice (some ⟨g, 0, none⟩) m cap) m (wcells W') from by
        have h := HO.out; rw [wcells_append] at h; exact ownsRow_pop (by rw [wcells_length, hm]) h)
      have HLP := Lib.hid (show left exTr W' < left exTr (W' ++ [⟨⟨bp, op, none⟩, ⟨bq, oq, none⟩, ea, eb⟩]) by rw [left_append, left_one]; exact Nat.lt_add_of_pos_right (sz_pos _ _))
      clear hm hn p0 p1 p2 q0 q1 q2 bp2 bq2 hpc hqc
      obtain ⟨W1, eW⟩ : ∃ W1, W1 = wr.alloc (.cells #[.pointer (some ⟨bp, op, none⟩), .pointer (some ⟨bq, oq, none⟩)] 127) := ⟨_, rfl⟩
      have hb1 : Below wr.heap.size wr W1 := by rw [eW]; exact (Below.refl _ _).alloc (Nat.le_refl _) _
      have HM1 := Lib.hid (HM.out.grow hB hb1)
      have HB1 := Lib.hid hb1
      have hs1 : wr.heap.size < W1.heap.size := by rw [eW]; simp
      have HBX := Lib.hid (show W1.cell? ⟨wr.heap.size, 0, none⟩ = some (.pointer (some ⟨bp, op, none⟩)) ∧ W1.cell? ⟨wr.heap.size, 1, none⟩ = some (.pointer (some ⟨bq, oq, none⟩)) by rw [eW]; constructor <;> simp [go_sem])
      have EW := Lib.hid eW
      have HAL := Lib.hid (show PAlive W1 (⟨bp, op, none⟩, ⟨bq, oq, none⟩) from ⟨(HM1.out.ptr _ (.inl (List.mem_append_right _ (List.mem_singleton.2 rfl)))).1.alive, (HM1.out.ptr _ (.inl (List.mem_append_right _ (List.mem_singleton.2 rfl)))).2.alive⟩)
      clear eW hb1
      by_cases hin : (⟨bp, op, none⟩, ⟨bq, oq, none⟩) ∈ S.map Pr.pa
      · have HIN := Lib.hid hin
        have hd : decide ((⟨bp, op, none⟩, ⟨bq, oq, none⟩) ∈ S.map Pr.pa) = true := decide_eq_true hin
        clear hin
        go_wp2_with (at_lookup; rw [← EW.out]; refine wpList_lookup_seen pairTyX _ rfl _ _ 125 4 rfl Tryd.underlying125 zeroB w.heap.size _ rfl HM1.out.seen (⟨bp, op, none⟩, ⟨bq, oq, none⟩) rfl HAL.out ?_)
        go_roundg (left exTr W')
        case rel => exact ⟨W', S, g, cap, m, rfl, rfl, HM', Lib.hid (HOP.out.kept ⟨HB1.out.os, HB1.out.tape, HB1.out.output, HB1.out.size, fun k hk _ => HB1.out.block k hk⟩ (.inr (by simp [Value.ownBlock]) : _ ∨ _ ≠ (none : Option Nat))), Lib.hid (HM1.out.skip HIN.out)⟩
        case measure => have := HG.out; have := HLP.out; omega
      · have HNI := Lib.hid hin
        have hd : decide ((⟨bp, op, none⟩, ⟨bq, oq, none⟩) ∈ S.map Pr.pa) = false := decide_eq_false hin
        clear hin
        obtain ⟨bx0, bx1⟩ := HBX.out
        go_wp2_with (first | (at_lookup; rw [← EW.out]; refine wpList_lookup_seen pairTyX _ rfl _ _ 125 4 rfl Tryd.underlying125 zeroB w.heap.size _ rfl HM1.out.seen (⟨bp, op, none⟩, ⟨bq, oq, none⟩) rfl HAL.out ?_) | (at_mapUpdate; refine wpList_update_seen pairTyX _ rfl _ _ _ 125 4 rfl Tryd.underlying125 w.heap.size _ rfl HM1.out.seen (⟨bp, op, none⟩, ⟨bq, oq, none⟩) rfl rfl HAL.out HNI.out ?_; intro W2 hs2 hg2 hz2))
        have hbM : Below w.heap.size W1 W2 := grown_below hg2 (Nat.le_refl _) (by omega)
        have hB2 : Below B wr W2 := (HB1.out.mono (by omega)).trans (hbM.mono hB)
        have d0 : W2.cell? ⟨bp, op + 2, none⟩ = some (.slice pp la pc) := keepc hB2 bp1 HP2.out
        have d1 : W2.cell? ⟨bq, oq + 2, none⟩ = some (.slice qp lb qc) := keepc hB2 bq1 HQ2.out
        have by0 : W2.cell? ⟨wr.heap.size, 0, none⟩ = some (.pointer (some ⟨bp, op, none⟩)) := (World.cell?_of_block (w := W1) (a := ⟨wr.heap.size, 0, none⟩) (hg2.block wr.heap.size hs1 (by simp; omega))).trans bx0
        have by1 : W2.cell? ⟨wr.heap.size, 1, none⟩ = some (.pointer (some ⟨bq, oq, none⟩)) := (World.cell?_of_block (w := W1) (a := ⟨wr.heap.size, 1, none⟩) (hg2.block wr.heap.size hs1 (by simp; omega))).trans bx1
        have HPA := Lib.hid (show ∀ u, Below B W2 u → ea.Ptr B u ⟨bp, op, none⟩ ∧ eb.Ptr B u ⟨bq, oq, none⟩ from fun u hu => by
          have h := HM.out.ptr ⟨⟨bp, op, none⟩, ⟨bq, oq, none⟩, ea, eb⟩ (.inl (by simp))
          exact ⟨h.1.below (hB2.trans hu) (Nat.le_refl _), h.2.below (hB2.trans hu) (Nat.le_refl _)⟩)
        have HS2 := Lib.hid hs2
        have HBM := Lib.hid hbM
        have HOP2 := Lib.hid (show W2.ownsRow (w.heap.size + 1) 127 2 (.slice (some ⟨g, 0, none⟩) m cap) m (wcells W') from
          (HOP.out.kept ⟨HB1.out.os, HB1.out.tape, HB1.out.output, HB1.out.size, fun k hk _ => HB1.out.block k hk⟩ (.inr (by simp [Value.ownBlock]) : _ ∨ _ ≠ (none : Option Nat))).kept hg2 (.inr (by simp [Value.ownBlock]; omega)))
        have hz3 : wr.heap.size < W2.heap.size := by omega
        clear hs2 hg2 hbM hB2 bx0 bx1
        go_quiet ((go_at_call 65; first | with_reducible exact Calls.quiet_of_same (exKids_q bp op _ _ _ d0 _ _ _ rfl) | with_reducible exact Calls.quiet_of_same (exKids_q bq oq _ _ _ d1 _ _ _ rfl)))
        by_cases hl : la = lb
        · subst hl
          cases htop : exTop ea eb with
          | false =>
            have HT := Lib.hid htop
            have HE := Lib.hid (exEq_false (HM.out.inv.differ (.inl htop)))
            clear htop
            go_wp2_with (go_at_call 64; refine (exTops_any ea eb _ _ B _ (HPA.out _ (drewN_below _ _ _)).1 (HPA.out _ (drewN_below _ _ _)).2).mono ?_; rintro en W3 ⟨hen, hb3⟩; rw [HT.out] at hen; subst hen)
            go_ret
            exact ⟨by rw [HE.out]; rfl, HM1.out.blw.trans (HBM.out.trans ((drewN_below W2 _ _).trans (hb3.mono (by show w.heap.size ≤ W2.heap.size; omega))))⟩
          | true =>
            have HT := Lib.hid htop
            clear htop
            go_wp2_with (go_at_call 64; refine (exTops_any ea eb _ _ B _ (HPA.out _ (drewN_below _ _ _)).1 (HPA.out _ (drewN_below _ _ _)).2).mono ?_; rintro en W3 ⟨hen, hb3⟩; rw [HT.out] at hen; subst hen)
            have hz4 : w.heap.size < W2.heap.size := by have := HS2.out.lt; omega
            have HB3 := Lib.hid (show Below W2.heap.size W2 W3 from (drewN_below W2 _ _).trans hb3)
            have HM3 := Lib.hid (HB3.out.block w.heap.size hz4)
            have HO3 := Lib.hid (show W3.ownsRow (w.heap.size + 1) 127 2 (.slice (some ⟨g, 0, none⟩) m cap) m (wcells W') from
              HOP2.out.kept ⟨HB3.out.os, HB3.out.tape, HB3.out.output, HB3.out.size, fun k hk _ => HB3.out.block k hk⟩ (.inr (by simp [Value.ownBlock]) : _ ∨ _ ≠ (none : Option Nat)))
            obtain ⟨N, hkp, hNl, hNp, hNi⟩ := kidsX (xp := ⟨bp, op, none⟩) (xq := ⟨bq, oq, none⟩) HPL.out HQL.out
            have HKP := Lib.hid hkp
            have HNL := Lib.hid hNl
            have HNP := Lib.hid hNp
            have HNI2 := Lib.hid hNi
            have HLE := Lib.hid (show ea.ks.list.length = eb.ks.list.length by have a := HLX.out; have b := HLY.out; exact a.trans b.symm)
            clear hb3 hkp hNl hNp hNi by0 by1 d0 d1 c0 c1
            obtain ⟨wo, rfl⟩ : ∃ wo : World, wo = wr := ⟨_, rfl⟩
            go_loopw [10, 63] (fun s i u => ∃ (k g' cap' : Nat), k ≤ la ∧ i = .int .i64 k ∧ s = .slice (some ⟨g', 0, none⟩) (m + k) cap' ∧ RowKit.Hid (u.ownsRow (w.heap.size + 1) 127 2 (.slice (some ⟨g', 0, none⟩) (m + k) cap') (m + k) (wcells (W' ++ N.take k))) ∧ RowKit.Hid (Below w.heap.size W2 u ∧ u.heap[w.heap.size]? = W2.heap[w.heap.size]?)) (fun _ i _ => la - (intOf i).toNat)
            case atStart => exact ⟨0, g, cap, Nat.zero_le _, rfl, rfl, Lib.hid (by rw [List.take_zero, List.append_nil]; exact HO3.out), Lib.hid ⟨HB3.out.mono (by omega), HM3.out⟩⟩
            case round =>
              obtain ⟨k, g', cap', hk, rfl, rfl, HOK, HBK⟩ := hrel
              by_cases hlt : k < la
              · obtain ⟨bk, ok, bk', ok', f1, f2, f3, f4⟩ := HNI2.out k (by have := HNL.out; omega)
                subst f1 f2
                have HW := Lib.hid (wcells_step W' (N := N) (k := k) (by have := HNL.out; omega))
                have HF3 := Lib.hid f3
                have HF4 := Lib.hid f4
                have hgl := HOK.out.lt g' rfl
                clear f3 f4
                have HST := Lib.hid (fun (E : World) (hE : Below wr.heap.size wr E) (gn : Nat) (h0 : E.cell? ⟨gn, 0, none⟩ = some (.pointer (some ⟨bk, ok + k * 3, none⟩))) (h1 : E.cell? ⟨gn, 1, none⟩ = some (.pointer (some ⟨bk', ok' + k * 3, none⟩))) =>
                  app_pairX 128 (M := w.heap.size) HOK.out rfl (by omega) HBK.out.1 HBK.out.2 E hE gn h0 h1)
                go_wp2_with fail
                go_region_law (first
                  | (refine step_app_pair (by rfl) (.tmp 66) (.tmp 74) 128 (by rfl) _ _ (by rfl) (by rfl) _ (HST.out _ (by ((repeat (first | with_reducible assumption | with_reducible exact Below.refl _ _ | refine Below.setCell ?_ (by (first | omega | (simp; omega) | (simp; done) | fail "sml")) _ | refine Below.drew ?_ | refine Below.alloc ?_ (by (first | omega | (simp; omega) | (simp; done) | fail "sml")) _)); first | done | fail "chs")) _ (by simp [go_sem]) (by simp [go_sem])) ?_; intro v2 w2 hv2; obtain ⟨g2, cc2, rfl, ho2, hb2, hm2⟩ := hv2; have HO2 := Lib.hid (show w2.ownsRow (w.heap.size + 1) 127 2 (.slice (some ⟨g2, 0, none⟩) (m + (k + 1)) cc2) (m + (k + 1)) (wcells (W' ++ N.take (k + 1))) by rw [HW.out, HF3.out, HF4.out]; exact ho2); have HB2 := Lib.hid (And.intro hb2 hm2); clear ho2 hb2 hm2)
                  | fail "no arm")
                all_goals go_wp2_with fail
                all_goals (go_roundw; ((case rel => exact ⟨k + 1, g2, cc2, by omega, by go_num, rfl, HO2, HB2⟩)); (case measure => (simp [intOf]; omega)))
              · have hke : k = la := by omega
                subst hke
                go_wp2_with fail
                go_roundg (left exTr (W' ++ N))
                case rel => exact ⟨W' ++ N, ⟨⟨bp, op, none⟩, ⟨bq, oq, none⟩, ea, eb⟩ :: S, g', cap', m + k, rfl, rfl, Lib.hid (by rw [List.length_append, HNL.out, ← HM'.out]), Lib.hid (by have h := HOK.out; rw [List.take_of_length_le (by have := HNL.out; omega)] at h; exact h), Lib.hid (HM1.out.push hB HT.out HLE.out HKP.out (HBM.out.trans HBK.out.1) (fun s hs => by
                  have h := HNP.out s hs
                  have hb : Below B wo wr := (HB1.out.mono (by omega)).trans ((HBM.out.trans HBK.out.1).mono hB)
                  exact ⟨h.1.below hb (Nat.le_refl _), h.2.below hb (Nat.le_refl _)⟩) (HS2.out.next (B := B) (fun y hy => by
                  have hx : ∃ r, (r ∈ W' ++ [⟨⟨bp, op, none⟩, ⟨bq, oq, none⟩, ea, eb⟩] ∨ r ∈ S) ∧ Pr.pa r = y := by
                    rcases List.mem_cons.1 hy with rfl | hy
                    · exact ⟨⟨⟨bp, op, none⟩, ⟨bq, oq, none⟩, ea, eb⟩, .inl (by simp), rfl⟩
                    · obtain ⟨r, hr, e⟩ := List.mem_map.1 hy; exact ⟨r, .inr hr, e⟩
                  obtain ⟨r, hr, rfl⟩ := hx
                  obtain ⟨⟨b, o, v, e, h1, _⟩, ⟨b', o', v', e', h2, _⟩⟩ := HM.out.ptr r hr
                  exact ⟨by show r.p.block < B; rw [e]; exact h1, by show r.q.block < B; rw [e']; exact h2⟩) (HBK.out.1.mono hB) HBK.out.2))⟩
                case measure =>
                  have a := HG.out
                  have b := HKP.out.left
                  rw [left_append, left_one] at a
                  rw [left_append]
                  simp only at b a
                  omega
        · have HE := Lib.hid (exEq_false (HM.out.inv.differ (.inr (by have a := HLX.out; have b := HLY.out; show ¬ (exTr.kids ea).length = (exTr.kids eb).length; omega))))
          have t1 : ((la : Int) == (lb : Int)) = false := by rw [beq_eq_false_iff_ne]; omega
          have t2 : ((la : Int) != (lb : Int)) = true := by rw [bne_iff_ne]; omega
          go_wp2_with fail
          go_ret
          exact ⟨by rw [HE.out]; rfl, HM1.out.blw.trans (HBM.out.trans (drewN_below W2 _ _))⟩
end Go.Proofs.YtbbemeaojmfndaaDoor
namespace Go.Proofs.YtbbemeaojmfndaaDoor
open Go.RowKit

/-- An expression in a fresh block. -/
theorem Ex.ptr_new {e : Ex} {B : Nat} {E W : World} {k : Value} {b : Nat} {T : TypeId} (hk : e.ks.Live B E k) (hb : Below B E W) (hB : B ≤ b) (hW : W.heap[b]? = some (.cells #[.int .i64 e.op, .string e.a, k] T (0, 0))) : e.Ptr (b + 1) W ⟨b, 0, none⟩ := by
  refine ⟨b, 0, k, rfl, by omega, ⟨_, _, _, hW, fun o => by simp [World.frozen?, hW]⟩, ?_, ?_, ?_, hk.below hb (by omega)⟩
  · simp [World.cell?, hW]
  · simp [World.cell?, hW]
  · simp [World.cell?, hW]
theorem Ex.Ptr.mono {B B' : Nat} {w : World} {e : Ex} {x : Addr} (h : e.Ptr B w x) (hB : B ≤ B') : e.Ptr B' w x := h.below (Below.refl _ _) hB

set_option maxRecDepth 100000 in
set_option maxHeartbeats 1000000 in
theorem exprSame_live (e1 e2 : Ex) (k1 k2 : Value) (B : Nat) (w : World) (h1 : e1.ks.Live B w k1) (h2 : e2.ks.Live B w k2) (hB : B ≤ w.heap.size) (hs : e1.ks.size ≤ 1048576) :
    Calls Tryd.prog 32 #[.agg #[.int .i64 e1.op, .string e1.a, k1], .agg #[.int .i64 e2.op, .string e2.a, k2]] w fun en w' => en = .returned (.bool (exEq e1 e2)) ∧ Below w.heap.size w w' := by
  obtain ⟨p, c, f1⟩ := h1.in.form
  obtain ⟨q, d, f2⟩ := h2.in.form
  subst f1 f2
  obtain ⟨W, eW⟩ : ∃ W, W = (w.alloc (.cells #[.int .i64 e1.op, .string e1.a, .slice p e1.ks.list.length c] 25)).alloc (.cells #[.int .i64 e2.op, .string e2.a, .slice q e2.ks.list.length d] 25) := ⟨_, rfl⟩
  have hbW : Below w.heap.size w W := by rw [eW]; exact ((Below.refl _ _).alloc (Nat.le_refl _) _).alloc (by simp) _
  have q1 : W.heap[w.heap.size]? = some (.cells #[.int .i64 e1.op, .string e1.a, .slice p e1.ks.list.length c] 25 (0, 0)) := by rw [eW]; exact ((MapKept.heap_alloc _ _).2 _ (by simp)).trans (MapKept.heap_alloc _ _).1
  have q2 : W.heap[w.heap.size + 1]? = some (.cells #[.int .i64 e2.op, .string e2.a, .slice q e2.ks.list.length d] 25 (0, 0)) := by
    rw [eW]; have h := (MapKept.heap_alloc (w.alloc (.cells #[.int .i64 e1.op, .string e1.a, .slice p e1.ks.list.length c] 25)) (.cells #[.int .i64 e2.op, .string e2.a, .slice q e2.ks.list.length d] 25)).1
    rw [show w.heap.size + 1 = (w.alloc (.cells #[.int .i64 e1.op, .string e1.a, .slice p e1.ks.list.length c] 25)).heap.size by simp]; exact h
  have hz : w.heap.size + 2 = W.heap.size := by rw [eW]; simp
  have HC := Lib.hid (treesX_any e1 e2 ⟨w.heap.size, 0, none⟩ ⟨w.heap.size + 1, 0, none⟩ W.heap.size W ((Ex.ptr_new h1 (hbW.mono hB) hB q1).mono (by omega)) ((Ex.ptr_new h2 (hbW.mono hB) (by omega) q2).mono (by omega)) (Nat.le_refl _) (by show e1.ks.size + 1 ≤ _; omega))
  have HB := Lib.hid hbW
  have EW := Lib.hid eW
  clear q1 q2 eW hbW hz h1 h2
  go_enter Tryd.func32, Tryd.ntmps32
  go_wp2_with fail
  rw [← EW.out]
  refine HC.out.mono ?_
  rintro en w1 ⟨rfl, hb1⟩
  have HB1 := Lib.hid (HB.out.trans (hb1.mono HB.out.size))
  clear hb1
  go_wp2_with fail
  go_ret
  exact ⟨rfl, HB1.out⟩
theorem exprSame_any (e1 e2 : Ex) (v1 v2 : Value) (F1 F2 : List Nat) (w : World) (h1 : e1.Has v1 F1 w) (h2 : e2.Has v2 F2 w) (hs : e1.ks.size ≤ 1048576) :
    Calls Tryd.prog 32 #[v1, v2] w fun en w' => en = .returned (.bool (exEq e1 e2)) ∧ Below w.heap.size w w' := by
  obtain ⟨k1, rfl, o1⟩ := h1
  obtain ⟨k2, rfl, o2⟩ := h2
  exact exprSame_live e1 e2 k1 k2 w.heap.size w o1.live o2.live (Nat.le_refl _) hs
end Go.Proofs.YtbbemeaojmfndaaDoor
namespace Go.Proofs.YtbbemeaojmfndaaDoor
open Go.RowKit

theorem dl_all : ∀ r : List UInt8, r.all isD = true → dl r = r.length
  | [], _ => rfl
  | c :: r, h => by
    rw [List.all_cons, Bool.and_eq_true] at h
    rw [dl, if_pos h.1, dl_all r h.2]; rfl
theorem take_dl : ∀ r : List UInt8, (r.take (dl r)).all isD = true
  | [] => rfl
  | c :: r => by
    rw [dl]
    by_cases hc : isD c = true
    · rw [if_pos hc, List.take_succ_cons, List.all_cons, hc, take_dl r]; rfl
    · rw [if_neg hc]; rfl
theorem digits_one {a : ByteArray} {c : UInt8} {r : List UInt8} (hl : a.data.toList = c :: r) : digits a 1 = r.take (dl r) := by
  unfold digits; rw [hl]; rfl
theorem drop_one {a : ByteArray} {c : UInt8} {r : List UInt8} (hl : a.data.toList = c :: r) : a.data.toList.drop 1 = r := by rw [hl]; rfl
theorem size_of {a : ByteArray} {c : UInt8} {r : List UInt8} (hl : a.data.toList = c :: r) : a.size = 1 + r.length := by
  have := congrArg List.length hl
  simp at this; omega
theorem signAt_zero {a : ByteArray} : signAt a 0 false = match a.data.toList with | c :: _ => if isS c then some c else none | [] => none := by
  unfold signAt
  cases a.data.toList <;> rfl
theorem sign_none {a : ByteArray} (h : signAt a 0 false = none) : condOf a.data.toList = none := by
  rw [signAt_zero] at h
  rw [cond_of]
  cases hl : a.data.toList with
  | nil => rfl
  | cons c r =>
    rw [hl] at h
    by_cases hc : isS c = true
    · simp [hc] at h
    · simp [hc]
theorem sign_some {a : ByteArray} {c : UInt8} (h : signAt a 0 false = some c) : isS c = true ∧ ∃ r, a.data.toList = c :: r := by
  rw [signAt_zero] at h
  cases hl : a.data.toList with
  | nil => rw [hl] at h; cases h
  | cons d r =>
    rw [hl] at h
    by_cases hc : isS d = true
    · simp [hc] at h; subst h; exact ⟨hc, r, rfl⟩
    · simp [hc] at h
theorem cond_cons {a : ByteArray} {c : UInt8} {r : List UInt8} (hl : a.data.toList = c :: r) (hc : isS c = true) : condOf a.data.toList = (num99 r).map fun n => (c, n) := by
  rw [cond_of, hl]; simp [hc]
theorem split_bad {a : ByteArray} {c : UInt8} {r : List UInt8} (hl : a.data.toList = c :: r) (hc : isS c = true) (hn : numOf (digits a 1) = none) : condOf a.data.toList = none := by
  rw [cond_cons hl hc]
  cases h : num99 r with
  | none => rfl
  | some n =>
    have hd := (num99_of h).2.2
    rw [digits_one hl, dl_all r hd, List.take_length, numOf_99 h] at hn
    cases hn
theorem split_end {a : ByteArray} {c : UInt8} {r : List UInt8} {v : Int} (hl : a.data.toList = c :: r) (hc : isS c = true) (hn : numOf (digits a 1) = some v) (he : 1 + dl (a.data.toList.drop 1) = a.size) :
    condB a = decide (v ≤ 99) ∧ ∀ s n, condOf a.data.toList = some (s, n) → c = s ∧ v = n := by
  rw [drop_one hl, size_of hl] at he
  have hdl : dl r = r.length := by omega
  have hall : r.all isD = true := by have := take_dl r; rwa [hdl, List.take_length] at this
  rw [digits_one hl, hdl, List.take_length] at hn
  unfold condB
  rw [cond_cons hl hc]
  cases h : num99 r with
  | none =>
    refine ⟨?_, fun s n e => by cases e⟩
    have : ¬ v ≤ 99 := fun h9 => by rw [numOf_small hn hall h9] at h; cases h
    rw [decide_eq_false this]; rfl
  | some n =>
    have e := numOf_99 h
    rw [hn] at e
    have e := Option.some.inj e
    have hlt := (num99_of h).1
    refine ⟨?_, fun s m e2 => ?_⟩
    · rw [decide_eq_true (by omega : v ≤ 99)]; rfl
    · simp only [Option.map_some, Option.some.injEq, Prod.mk.injEq] at e2
      exact ⟨e2.1, by rw [e, e2.2]⟩
theorem split_more {a : ByteArray} {c : UInt8} {r : List UInt8} (hl : a.data.toList = c :: r) (hc : isS c = true) (he : 1 + dl (a.data.toList.drop 1) ≠ a.size) : condOf a.data.toList = none := by
  rw [drop_one hl, size_of hl] at he
  rw [cond_cons hl hc]
  cases h : num99 r with
  | none => rfl
  | some n => exact absurd (dl_all r (num99_of h).2.2) (by omega)

def SplitPost (a : ByteArray) (w : World) (e : Ending) (w' : World) : Prop :=
  ∃ (c v : Int), e = .returned (.tuple #[.int .u8 c, .int .i64 v, .bool (condB a)]) ∧ (∀ s n, condOf a.data.toList = some (s, n) → c = s.toNat ∧ v = n) ∧ Below w.heap.size w w'
theorem splitPost_no {a : ByteArray} {w w' : World} {c v : Int} (h : condOf a.data.toList = none) (hb : Below w.heap.size w w') : SplitPost a w (.returned (.tuple #[.int .u8 c, .int .i64 v, .bool false])) w' :=
  ⟨c, v, by unfold condB; rw [h]; rfl, (fun s n e => by rw [h] at e; cases e), hb⟩
set_option maxRecDepth 100000 in
set_option maxHeartbeats 2000000 in
theorem splitCond_any (a : ByteArray) (w : World) (hs : a.size ≤ 1048576) (hv : Vars w) : Calls Tryd.prog 94 #[.string a] w (SplitPost a w) := by
  have HV := Lib.hid (hv.below ((Below.refl w.heap.size w).alloc (Nat.le_refl _) (.cells #[.string a, .int .i64 0, .bool false] 135)))
  clear hv
  go_enter Tryd.func94, Tryd.ntmps94
  go_wp2_with fail
  have HR := Lib.hid (show Rdr w.heap.size a 0 false (w.alloc (.cells #[.string a, .int .i64 0, .bool false] 135)) from Blk.new w #[.string a, .int .i64 0, .bool false] 135)
  have HB := Lib.hid ((Below.refl w.heap.size w).alloc (Nat.le_refl _) (.cells #[.string a, .int .i64 0, .bool false] 135))
  refine (takeSign_any w.heap.size a 0 false _ HR.out (by unfold maxLen; omega) (by omega)).mono ?_
  rintro e w1 hpost
  have hb1 : Below w.heap.size w w1 := by
    rcases hpost with ⟨c, _, _, _, hc⟩ | ⟨_, _, _, hc⟩ <;> exact HB.out.trans (hc.below (by simp) (by simp))
  have HB1 := Lib.hid hb1
  have HV1 := Lib.hid (show Vars w1 by rcases hpost with ⟨c, _, _, _, hc⟩ | ⟨_, _, _, hc⟩ <;> exact HV.out.rdr HR.out hc)
  clear hb1
  rcases hpost with ⟨c, hsg, rfl, hr1, hc1⟩ | ⟨hsg, rfl, hr1, hc1⟩
  · have HR1 := Lib.hid hr1
    obtain ⟨hcS, r, hl⟩ := sign_some hsg
    have HL := Lib.hid hl
    have HS := Lib.hid hcS
    have hsz := size_of hl
    clear hr1 hc1 hsg hl hcS
    go_wp2_with fail
    refine (takeNumber_any w.heap.size a 1 false _ HR1.out (by omega) (by omega) HV1.out).mono ?_
    rintro e w2 ⟨hc2, hpost⟩
    have HB2 := Lib.hid (HB1.out.trans ((hc2.below (B := w.heap.size) HB1.out.size (by simp))))
    clear hc2
    rcases hpost with ⟨v, hn, rfl, hr2⟩ | ⟨hn, rfl, hr2⟩
    · have HN := Lib.hid hn
      have HR2 := Lib.hid hr2
      obtain ⟨D, eD⟩ : ∃ D, D = dl (a.data.toList.drop 1) := ⟨_, rfl⟩
      rw [← eD] at HR2
      by_cases he : 1 + D = a.size
      · have hpure := split_end HL.out HS.out HN.out (by rw [← eD]; exact he)
        have HP := Lib.hid hpure
        have HF := Lib.hid (show ended a (1 + D) false = true by unfold ended; rw [decide_eq_true he]; rfl)
        clear hn hr2 hpure eD
        go_wp2_with fail
        refine (finished_any w.heap.size a (1 + D) false _ HR2.out).mono ?_
        rintro e w3 ⟨rfl, n, rfl⟩
        rw [HF.out]
        go_wp2_with fail
        refine bodyPost_ret (v := .tuple #[.int .u8 c.toNat, .int .i64 v, .bool (decide (v ≤ 99))]) (by simp [results, Tryd.results94, go_sem]) rfl ?_
        exact ⟨_, _, by rw [HP.out.1], (fun s n h => ⟨by rw [(HP.out.2 s n h).1], (HP.out.2 s n h).2⟩), HB2.out.trans ((chgN w.heap.size w2 n).below (B := w.heap.size) HB2.out.size (by simp))⟩
      · have HP := Lib.hid (split_more HL.out HS.out (by rw [← eD]; exact he))
        have HF := Lib.hid (show ended a (1 + D) false = false by unfold ended; rw [decide_eq_false he]; rfl)
        clear hn hr2 eD
        go_wp2_with fail
        refine (finished_any w.heap.size a (1 + D) false _ HR2.out).mono ?_
        rintro e w3 ⟨rfl, n, rfl⟩
        rw [HF.out]
        go_wp2_with fail
        refine bodyPost_ret (v := .tuple #[.int .u8 c.toNat, .int .i64 v, .bool false]) (by simp [results, Tryd.results94, go_sem]) rfl ?_
        exact splitPost_no HP.out (HB2.out.trans ((chgN w.heap.size w2 n).below (B := w.heap.size) HB2.out.size (by simp)))
    · have HP := Lib.hid (split_bad HL.out HS.out hn)
      have HR2 := Lib.hid hr2
      obtain ⟨D, eD⟩ : ∃ D, D = dl (a.data.toList.drop 1) := ⟨_, rfl⟩
      rw [← eD] at HR2
      have HF := Lib.hid (show ended a (1 + D) true = false from rfl)
      clear hn hr2 eD
      go_wp2_with fail
      refine (finished_any w.heap.size a (1 + D) true _ HR2.out).mono ?_
      rintro e w3 ⟨rfl, n, rfl⟩
      rw [HF.out]
      go_wp2_with fail
      refine bodyPost_ret (v := .tuple #[.int .u8 c.toNat, .int .i64 0, .bool false]) (by simp [results, Tryd.results94, go_sem]) rfl ?_
      exact splitPost_no HP.out (HB2.out.trans ((chgN w.heap.size w2 n).below (B := w.heap.size) HB2.out.size (by simp)))
  · have HR1 := Lib.hid hr1
    have HP := Lib.hid (sign_none hsg)
    clear hr1 hc1 hsg
    go_wp2_with fail
    refine (takeNumber_any w.heap.size a 0 true _ HR1.out (by omega) (by omega) HV1.out).mono ?_
    rintro e w2 ⟨hc2, hpost⟩
    have HB2 := Lib.hid (HB1.out.trans ((hc2.below (B := w.heap.size) HB1.out.size (by simp))))
    clear hc2
    obtain ⟨D, v, rfl, hr2⟩ : ∃ (D : Nat) (v : Int), e = .returned (.int .i64 v) ∧ Rdr w.heap.size a D true w2 := by
      rcases hpost with ⟨v, hn, rfl, hr2⟩ | ⟨hn, rfl, hr2⟩
      · exact ⟨_, _, rfl, hr2⟩
      · exact ⟨_, _, rfl, hr2⟩
    have HR2 := Lib.hid hr2
    have HF := Lib.hid (show ended a D true = false from rfl)
    clear hr2 hpost
    go_wp2_with fail
    refine (finished_any w.heap.size a D true _ HR2.out).mono ?_
    rintro e w3 ⟨rfl, n, rfl⟩
    rw [HF.out]
    go_wp2_with fail
    refine bodyPost_ret (v := .tuple #[.int .u8 0, .int .i64 v, .bool false]) (by simp [results, Tryd.results94, go_sem]) rfl ?_
    exact splitPost_no HP.out (HB2.out.trans ((chgN w.heap.size w2 n).below (B := w.heap.size) HB2.out.size (by simp)))

set_option maxRecDepth 100000 in
set_option maxHeartbeats 400000 in
theorem exprAtomValid_any (a : ByteArray) (kind : Int) (w : World) (hs : a.size ≤ 1048576) (hv : Vars w) :
    Calls Tryd.prog 95 #[.string a, .int .i64 kind] w fun e w' => e = .returned (.bool (atomB kind a)) ∧ Below w.heap.size w w' := by
  have HV := Lib.hid hv
  clear hv
  by_cases hk : kind = 1
  · subst hk
    go_enter Tryd.func95, Tryd.ntmps95
    go_wp2_with fail
    refine (labelValid_any a _ (by unfold maxLen; omega)).mono ?_
    rintro e w1 ⟨rfl, rfl⟩
    go_wp2_with fail
    go_ret
    exact ⟨by rw [show atomB 1 a = lv a from rfl]; rfl, Below.refl _ _⟩
  · have hk1 : (kind == 1) = false := beq_eq_false_iff_ne.2 hk
    have HA := Lib.hid (show atomB kind a = condB a by unfold atomB; rw [if_neg hk])
    go_enter Tryd.func95, Tryd.ntmps95
    go_wp2_with fail
    refine (splitCond_any a _ hs HV.out).mono ?_
    rintro e w1 ⟨c, v, rfl, _, hb⟩
    have HB := Lib.hid hb
    clear hb
    go_wp2_with fail
    go_ret
    exact ⟨by rw [HA.out]; rfl, HB.out⟩
end Go.Proofs.YtbbemeaojmfndaaDoor
namespace Go.Proofs.YtbbemeaojmfndaaDoor
open Go.RowKit

theorem ex_ext {e f : Ex} (h1 : e.op = f.op) (h2 : e.a = f.a) (h3 : e.ks.list = f.ks.list) : e = f := by
  obtain ⟨o, a, k⟩ := e
  obtain ⟨o', a', k'⟩ := f
  simp only at h1 h2 h3
  rw [h1, h2, ← Fo.of_list k, ← Fo.of_list k', h3]
theorem str_eq_b {a b : ByteArray} (h : a = b) : (a.toList == b.toList) = true ∧ (a.toList != b.toList) = false := by subst h; simp
theorem str_ne_b {a b : ByteArray} (h : a ≠ b) : (a.toList == b.toList) = false ∧ (a.toList != b.toList) = true := by
  have : a.toList ≠ b.toList := fun e => h (bytes_ext e)
  simp [this]
def SameEx (e f : Ex) : Prop := ∀ (k k' : Value) (B : Nat) (w : World), e.ks.In B w k → f.ks.In B w k' → B ≤ w.heap.size →
  Calls Tryd.prog 62 #[.agg #[.int .i64 e.op, .string e.a, k], .agg #[.int .i64 f.op, .string f.a, k']] w fun en w' => en = .returned (.bool (exEq e f)) ∧ Below w.heap.size w w'

set_option maxRecDepth 100000 in
set_option maxHeartbeats 4000000 in
theorem sameExN (n : Nat) : ∀ e f : Ex, e.ks.size ≤ n → SameEx e f := by
  induction n using Nat.strongRecOn with
  | _ n ih =>
    intro e f hn k k' B w hk hk' hB
    have IH := Lib.hid ih
    clear ih
    obtain ⟨p, cap, rfl⟩ := hk.form
    obtain ⟨q, caq, rfl⟩ := hk'.form
    obtain ⟨_, hm1, hm2⟩ := hk.max
    obtain ⟨_, hn1, hn2⟩ := hk'.max
    unfold maxLen at hm2 hn2
    have HK := Lib.hid hk
    have HK' := Lib.hid hk'
    clear hk hk'
    obtain ⟨W0, eW⟩ : ∃ W0, W0 = (w.alloc (.cells #[.int .i64 e.op, .string e.a, .slice p e.ks.list.length cap] 25)).alloc (.cells #[.int .i64 f.op, .string f.a, .slice q f.ks.list.length caq] 25) := ⟨_, rfl⟩
    have HV := Lib.hid (show Below w.heap.size w W0 by rw [eW]; exact ((Below.refl w.heap.size w).alloc (by simp) _).alloc (by simp) _)
    have HC := Lib.hid (show ∀ wk, Below (w.heap.size + 2) W0 wk → w.heap.size + 2 ≤ wk.heap.size ∧ wk.cell? ⟨w.heap.size, 2, none⟩ = some (.slice p e.ks.list.length cap) ∧ wk.cell? ⟨w.heap.size + 1, 2, none⟩ = some (.slice q f.ks.list.length caq) from
      fun wk hk => by rw [eW] at hk; exact ⟨by have := hk.size; simp at this; omega, keepc hk (by omega) (by simp [go_sem]), keepc hk (by omega) (by simp [go_sem])⟩)
    have hz0 : w.heap.size + 2 ≤ W0.heap.size := by rw [eW]; simp
    have HA0 := Lib.hid (Below.refl (w.heap.size + 2) W0)
    have EW := Lib.hid eW
    clear eW
    by_cases ho : e.op = f.op
    · have o1 : (e.op == f.op) = true := beq_iff_eq.2 ho
      have o2 : (e.op != f.op) = false := by simp [ho]
      have HO := Lib.hid ho
      clear ho
      by_cases ha : e.a = f.a
      · obtain ⟨a1, a2⟩ := str_eq_b ha
        have HAE := Lib.hid ha
        clear ha
        by_cases hl : e.ks.list.length = f.ks.list.length
        · have HL := Lib.hid hl
          have l1 : ((e.ks.list.length : Int) == (f.ks.list.length : Int)) = true := by rw [beq_iff_eq]; omega
          have l2 : ((e.ks.list.length : Int) != (f.ks.list.length : Int)) = false := by simp [hl]
          have hl' : e.ks.list.length ≤ f.ks.list.length := by omega
          have hl'' : f.ks.list.length ≤ e.ks.list.length := by omega
          clear hl
          go_enter Tryd.func62, Tryd.ntmps62
          go_wp2_with fail
          rw [← EW.out]
          go_loopw [5] (fun i wr => ∃ (m : Nat), m ≤ e.ks.list.length ∧ i = .int .i64 m ∧ RowKit.Hid (∀ (j : Nat) (h : j < e.ks.list.length) (h' : j < f.ks.list.length), j < m → e.ks.list[j] = f.ks.list[j]) ∧ RowKit.Hid (Below (w.heap.size + 2) W0 wr)) (fun i _ => e.ks.list.length - (intOf i).toNat)
          case atStart => exact ⟨0, Nat.zero_le _, rfl, Lib.hid (fun j _ _ h => by omega), HA0⟩
          case round =>
            obtain ⟨m, hm, rfl, HEQ, HA⟩ := hrel
            obtain ⟨hz, c0, c1⟩ := HC.out _ HA.out
            by_cases hlt : m < e.ks.list.length
            · have HB2 := Lib.hid (HV.out.trans (HA.out.mono (by omega)))
              have hlt2 : m < f.ks.list.length := by omega
              obtain ⟨b, off, r, l, cc, rfl, hb, d0, d1, d2, hin⟩ := (HK.out.below (HB2.out.mono hB) (Nat.le_refl _)).get m hlt
              obtain ⟨b', off', r', l', cc', rfl, hb', d0', d1', d2', hin'⟩ := (HK'.out.below (HB2.out.mono hB) (Nat.le_refl _)).get m hlt2
              have hsz := e.ks.size_get m hlt
              have hih := IH.out e.ks.list[m].ks.size (by omega) e.ks.list[m] f.ks.list[m] (Nat.le_refl _)
              have hne : e.ks.list[m] ≠ f.ks.list[m] → e ≠ f := by
                rintro h rfl; exact h rfl
              have hst : e.ks.list[m] = f.ks.list[m] → ∀ (j : Nat) (h : j < e.ks.list.length) (h' : j < f.ks.list.length), j < m + 1 → e.ks.list[j] = f.ks.list[j] := by
                intro h j h1 h2 h3
                by_cases hj : j = m
                · subst hj; exact h
                · exact HEQ.out j h1 h2 (by omega)
              obtain ⟨x, ex⟩ : ∃ x, x = e.ks.list[m] := ⟨_, rfl⟩
              obtain ⟨y, ey⟩ : ∃ y, y = f.ks.list[m] := ⟨_, rfl⟩
              rw [← ex] at d0 d1 hin hih hne hst
              rw [← ey] at d0' d1' hin' hih hne hst
              have HIN := Lib.hid hin
              have HIN' := Lib.hid hin'
              have HI := Lib.hid hih
              have HNE := Lib.hid hne
              have HST := Lib.hid hst
              clear ex ey hin hin' hih hne hst
              go_wp2_with fail
              go_still_tail 10, (by kernel_rfl)
              go_wp2_with fail
              refine (HI.out _ _ B _ (HIN.out.below (Below.refl _ _).drew (Nat.le_refl _)) (HIN'.out.below (Below.refl _ _).drew (Nat.le_refl _)) (by simp; omega)).mono ?_
              rintro en w1 ⟨hen, hb1⟩
              have HB1 := Lib.hid (HA.out.drew.trans (hb1.mono (by simp; omega)))
              clear hb1
              by_cases hxy : x = y
              · rw [exEq_true hxy] at hen
                subst hen
                have HS2 := Lib.hid (HST.out hxy)
                clear hxy
                go_wp2_with fail
                go_roundw
                case rel => exact ⟨m + 1, by omega, by go_num, HS2, HB1⟩
                case measure => simp [intOf]; omega
              · rw [exEq_false hxy] at hen
                subst hen
                have HE := Lib.hid (exEq_false (HNE.out hxy))
                clear hxy
                go_wp2_with fail
                go_ret
                exact ⟨by rw [HE.out]; rfl, HV.out.trans (HB1.out.mono (by omega))⟩
            · obtain rfl : m = e.ks.list.length := by omega
              have HE := Lib.hid (exEq_true (ex_ext HO.out HAE.out (List.ext_getElem HL.out fun j h h' => HEQ.out j h h' h)))
              go_wp2_with fail
              go_ret
              exact ⟨by rw [HE.out]; rfl, HV.out.trans (HA.out.mono (by omega))⟩
        · have HE := Lib.hid (exEq_false (show e ≠ f by rintro rfl; exact hl rfl))
          have l1 : ((e.ks.list.length : Int) == (f.ks.list.length : Int)) = false := by rw [beq_eq_false_iff_ne]; omega
          have l2 : ((e.ks.list.length : Int) != (f.ks.list.length : Int)) = true := by rw [bne_iff_ne]; omega
          clear hl
          go_enter Tryd.func62, Tryd.ntmps62
          go_wp2_with fail
          go_ret
          exact ⟨by rw [HE.out]; rfl, by rw [← EW.out]; exact HV.out⟩
      · have HE := Lib.hid (exEq_false (show e ≠ f by rintro rfl; exact ha rfl))
        obtain ⟨a1, a2⟩ := str_ne_b ha
        clear ha
        go_enter Tryd.func62, Tryd.ntmps62
        go_wp2_with fail
        go_ret
        exact ⟨by rw [HE.out]; rfl, by rw [← EW.out]; exact HV.out⟩
    · have HE := Lib.hid (exEq_false (show e ≠ f by rintro rfl; exact ho rfl))
      have o1 : (e.op == f.op) = false := beq_eq_false_iff_ne.2 ho
      have o2 : (e.op != f.op) = true := by rw [bne_iff_ne]; exact ho
      clear ho
      go_enter Tryd.func62, Tryd.ntmps62
      go_wp2_with fail
      go_ret
      exact ⟨by rw [HE.out]; rfl, by rw [← EW.out]; exact HV.out⟩
theorem specExprSame_any (e f : Ex) (v u : Value) (B : Nat) (w : World) (hv : e.At B w v) (hu : f.At B w u) (hB : B ≤ w.heap.size) :
    Calls Tryd.prog 62 #[v, u] w fun en w' => en = .returned (.bool (exEq e f)) ∧ Below w.heap.size w w' := by
  obtain ⟨k, rfl, hk⟩ := hv
  obtain ⟨k', rfl, hk'⟩ := hu
  exact sameExN e.ks.size e f (Nat.le_refl _) k k' B w hk hk' hB
end Go.Proofs.YtbbemeaojmfndaaDoor
namespace Go.Proofs.YtbbemeaojmfndaaDoor
open Go.RowKit

theorem tES : (Tryd.prog.globals[1]?).map (·.type) = some 146 := by kernel_rfl
theorem tER : (Tryd.prog.globals[2]?).map (·.type) = some 146 := by kernel_rfl
theorem tPT : (Tryd.prog.globals[3]?).map (·.type) = some 176 := by kernel_rfl
theorem laid_iface {W : World} {n nm : String} {d : DataW Unit} {r : List (String × DataW Unit)} {g ti : Nat} {ms : Array (String × TypeId)} (hg : Tryd.prog.globalNamed n = some g) (hty : (Tryd.prog.globals[g]?).map (·.type) = some ti) (hti : Tryd.prog.underlying ti = some (.interface ms))
    (h : laidMet Tryd.prog ((n, .iface nm d) :: r) W) : ∃ tp p, W.var? Tryd.prog n = some #[.iface tp p] := by
  obtain ⟨ps, ⟨g', t', cs, fuel, p, q, hg', ht', hvar, hd, _, _⟩, _⟩ := h
  obtain rfl := Option.some.inj (hg.symm.trans hg')
  obtain rfl := Option.some.inj (hty.symm.trans ht')
  obtain ⟨_, u, v, hcs, _, _⟩ := iface_of_trod hti hd
  refine ⟨u, v, ?_⟩
  rw [hvar, Array.eq_one_of_toList hcs]
end Go.Proofs.YtbbemeaojmfndaaDoor
