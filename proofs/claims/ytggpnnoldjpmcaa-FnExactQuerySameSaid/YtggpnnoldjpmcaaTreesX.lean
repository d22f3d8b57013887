/- impl.treesSame at expressions. -/
import Derived.Test.YtggpnnoldjpmcaaExL
import Derived.Deep.RegionHeld3
import Derived.Deep.DeepCutAuto
import Derived.StillTailTactics
import Derived.Maps.AppendAt
import Derived.Outline
import Derived.WalkSmall
import Derived.Deep.RegionLaw
namespace Go.Proofs.Ytggpnnoldjpmcaa
open Go.RowKit

theorem pairTyX : PairTy Try.prog 177 171 74 :=
  ⟨by kernel_rfl, Try.underlying171, by kernel_rfl, by kernel_rfl, by decide +kernel, by kernel_rfl⟩
theorem zeroB (w : World) : (zeroValue 4).run Try.prog w = .ok (.bool false) w := by kernel_rfl
theorem infoPX : (Try.prog.info? 177).map (fun i => (i.zero, i.size, i.bytes)) = some (some (.agg #[.pointer none, .pointer none]), 2, 16) := by kernel_rfl

/-- What the loop over the pairs holds. -/
structure TMX (e1 e2 : Ex) (B M : Nat) (w wr : World) (W S : List (Pr Ex)) : Prop where
  inv : TInv exTr e1 e2 W S
  ptr : ∀ r, r ∈ W ∨ r ∈ S → r.a.Ptr B wr r.p ∧ r.b.Ptr B wr r.q
  seen : Seen wr M (S.map Pr.pa)
  blw : Below M w wr
  lft : left exTr W ≤ 1048577
theorem TMX.next {e1 e2 : Ex} {B M : Nat} {w wr wr' : World} {W S : List (Pr Ex)} (h : TMX e1 e2 B M w wr W S) (hB : B ≤ M) (hb : Below M wr wr') (he : wr'.heap[M]? = wr.heap[M]?) : TMX e1 e2 B M w wr' W S :=
  ⟨h.inv, fun r hr => ⟨(h.ptr r hr).1.below (hb.mono hB) (Nat.le_refl _), (h.ptr r hr).2.below (hb.mono hB) (Nat.le_refl _)⟩,
    h.seen.next (B := B) (fun y hy => by
      obtain ⟨r, hr, rfl⟩ := List.mem_map.1 hy
      obtain ⟨⟨b, o, v, e, h1, _⟩, ⟨b', o', v', e', h2, _⟩⟩ := h.ptr r (.inr hr)
      exact ⟨by show r.p.block < B; rw [e]; exact h1, by show r.q.block < B; rw [e']; exact h2⟩) (hb.mono hB) he, h.blw.trans hb, h.lft⟩
theorem TMX.grow {e1 e2 : Ex} {B M : Nat} {w wr wr' : World} {W S : List (Pr Ex)} (h : TMX e1 e2 B M w wr W S) (hB : B ≤ M) (hb : Below wr.heap.size wr wr') : TMX e1 e2 B M w wr' W S :=
  h.next hB (hb.mono (Nat.le_of_lt h.seen.lt)) (hb.block M h.seen.lt)

theorem TMX.skip {e1 e2 : Ex} {B M : Nat} {w wr : World} {W S : List (Pr Ex)} {r : Pr Ex} (h : TMX e1 e2 B M w wr (W ++ [r]) S) (hin : r.pa ∈ S.map Pr.pa) : TMX e1 e2 B M w wr W S := by
  obtain ⟨s, hs, e⟩ := List.mem_map.1 hin
  have hr := h.ptr r (.inl (by simp))
  have hs' := h.ptr s (.inr hs)
  simp only [Pr.pa, Prod.mk.injEq] at e
  rw [← e.1, ← e.2] at hr
  refine ⟨h.inv.skip hs (hs'.1.det hr.1) (hs'.2.det hr.2), fun x hx => h.ptr x (by rcases hx with hx | hx; exact .inl (by simp [hx]); exact .inr hx), h.seen, h.blw, ?_⟩
  have := h.lft; rw [left_append] at this; omega
theorem TMX.push {e1 e2 : Ex} {B M : Nat} {w wr : World} {W S N : List (Pr Ex)} {r : Pr Ex} (h : TMX e1 e2 B M w wr (W ++ [r]) S) (hB : B ≤ M) (ht : exTop r.a r.b = true) (hl : r.a.ks.list.length = r.b.ks.list.length) (hN : KidPairs exTr r N)
    {wr' : World} (hb : Below M wr wr') (hp : ∀ s ∈ N, s.a.Ptr B wr' s.p ∧ s.b.Ptr B wr' s.q) (hs : Seen wr' M (r.pa :: S.map Pr.pa)) : TMX e1 e2 B M w wr' (W ++ N) (r :: S) := by
  refine ⟨h.inv.push ht hl hN, fun x hx => ?_, by simpa using hs, h.blw.trans hb, ?_⟩
  · have old : ∀ x, (x ∈ W ++ [r] ∨ x ∈ S) → x.a.Ptr B wr' x.p ∧ x.b.Ptr B wr' x.q := fun x hx => ⟨(h.ptr x hx).1.below (hb.mono hB) (Nat.le_refl _), (h.ptr x hx).2.below (hb.mono hB) (Nat.le_refl _)⟩
    rcases hx with hx | hx
    · rcases List.mem_append.1 hx with hx | hx
      · exact old x (.inl (by simp [hx]))
      · exact hp x hx
    · rcases List.mem_cons.1 hx with rfl | hx
      · exact old x (.inl (by simp))
      · exact old x (.inr hx)
  · have := h.lft; have := hN.left; rw [left_append, left_one] at *; omega
theorem exKids_q (b off : Nat) (v : Value) (w : World) (n : Nat) (h : w.cell? ⟨b, off + 2, none⟩ = some v) (p : Option Addr) (l c : Nat) (hv : v = .slice p l c) :
    Calls Try.prog 135 #[.pointer (some ⟨b, off, none⟩)] (w.drewN n) fun en w' => en = .returned v ∧ w' = w.drewN n := exKids_at b off v _ h p l c hv

/-- The pairs of the parts of two nodes whose parts are as many. -/
theorem kidsX {B : Nat} {w : World} {pp qp : Option Addr} {pc qc l : Nat} {ea eb : Ex} {xp xq : Addr} (hp : KidsAt 3 (fun w (e : Ex) x => e.Ptr B w x) w (.slice pp l pc) ea.ks.list) (hq : KidsAt 3 (fun w (e : Ex) x => e.Ptr B w x) w (.slice qp l qc) eb.ks.list) :
    ∃ N : List (Pr Ex), KidPairs exTr ⟨xp, xq, ea, eb⟩ N ∧ N.length = l ∧ (∀ s ∈ N, s.a.Ptr B w s.p ∧ s.b.Ptr B w s.q) ∧ ∀ (i : Nat) (h : i < N.length), ∃ b o b' o', pp = some ⟨b, o, none⟩ ∧ qp = some ⟨b', o', none⟩ ∧ N[i].p = ⟨b, o + i * 3, none⟩ ∧ N[i].q = ⟨b', o' + i * 3, none⟩ := by
  obtain ⟨p, c, e1, _, _, k1⟩ := hp
  obtain ⟨q, c', e2, _, _, k2⟩ := hq
  simp only [Value.slice.injEq] at e1 e2
  obtain ⟨rfl, el, rfl⟩ := e1
  obtain ⟨rfl, el', rfl⟩ := e2
  have hl : (exTr.kids ea).length = (exTr.kids eb).length := el.symm.trans el'
  by_cases h0 : l = 0
  · refine ⟨[], ⟨by show 0 = ea.ks.list.length; omega, fun i hi => by simp at hi⟩, by simp [h0], by simp, fun i hi => by simp at hi⟩
  · rcases k1 with k1 | ⟨b, o, rfl, k1⟩
    · rw [k1] at el; exact absurd el h0
    rcases k2 with k2 | ⟨b', o', rfl, k2⟩
    · rw [k2] at el'; exact absurd el' h0
    have hlen := mkPairs_length 3 b b' (exTr.kids ea) (exTr.kids eb) o o' hl
    have hget : ∀ (i : Nat) (h : i < (mkPairs 3 b b' o o' (exTr.kids ea) (exTr.kids eb)).length), ∃ (h1 : i < ea.ks.list.length) (h2 : i < eb.ks.list.length), (mkPairs 3 b b' o o' (exTr.kids ea) (exTr.kids eb))[i] = ⟨⟨b, o + i * 3, none⟩, ⟨b', o' + i * 3, none⟩, ea.ks.list[i], eb.ks.list[i]⟩ := by
      intro i h
      have h1 : i < ea.ks.list.length := by rw [hlen] at h; exact h
      have h2 : i < eb.ks.list.length := by omega
      have := mkPairs_get 3 b b' (exTr.kids ea) (exTr.kids eb) o o' i h1 h2
      rw [List.getElem?_eq_getElem h] at this
      exact ⟨h1, h2, Option.some.inj this⟩
    refine ⟨_, mkPairs_kids exTr ⟨xp, xq, ea, eb⟩ 3 b b' o o' hl, hlen.trans el.symm, fun s hs => ?_, fun i hi => ?_⟩
    · obtain ⟨i, hi, rfl⟩ := List.mem_iff_getElem.1 hs
      obtain ⟨h1, h2, e⟩ := hget i hi
      rw [e]
      exact ⟨k1 i h1, k2 i h2⟩
    · obtain ⟨h1, h2, e⟩ := hget i hi
      exact ⟨b, o, b', o', rfl, rfl, by rw [e], by rw [e]⟩
theorem own_form {w : World} {base : Nat} {e : TypeId} {size : Nat} {v : Value} {n : Nat} {xs : List Value} (h : w.ownsRow base e size v (n + 1) xs) : ∃ g cap, v = .slice (some ⟨g, 0, none⟩) (n + 1) cap := by
  rcases h.2 with ⟨_, h⟩ | ⟨g, cap, _, h, _⟩
  · omega
  · exact ⟨g, cap, h⟩
theorem step_app_pair {P : Program} {w : World} {ops : Array Oper} {o : Oper} {a : Act} {K : Act → World → Prop} {Q : Exit → Act → World → Prop} {E : Prop} (hgd : o.guard = none) (s x : Operand) (t : TypeId)
    (ho : o.op = .call { callee := .builtin .append, args := #[s, x], argTypes := #[t, t] }) (vs vx : Value) (hs : a.eval s = vs) (hx : a.eval x = vx) (R : Value → World → Prop)
    (hr : ∃ v' w', (Builtin.append_ #[t, t] o.type #[vs, vx]).run P w = .ok v' w' ∧ R v' w') (h : ∀ v' w', R v' w' → K (a.put o.dst v') w') :
    if Region.wanted o (yielded ops a.tmps) = true then Oper.wp P o a w K Q else E := by
  have hw : Region.wanted o (yielded ops a.tmps) = true := by simp [Region.wanted, hgd]
  rw [if_pos hw]
  obtain ⟨v', w', hr, hR⟩ := hr
  unfold Oper.wp execOp
  simp only [ho, resolve, invoke, builtin, Sem.run_bind, Sem.run_pure, Result.andThen_ok, List.map_toArray, List.map_cons, List.map_nil, hs, hx, hr]
  exact h v' w' hR
/-- What an append of a pair leaves. -/
def AppPX (base n M : Nat) (xs : List Value) (W2 : World) (v' : Value) (w' : World) : Prop :=
  ∃ g cap, v' = .slice (some ⟨g, 0, none⟩) n cap ∧ w'.ownsRow base 177 2 (.slice (some ⟨g, 0, none⟩) n cap) n xs ∧ Below M W2 w' ∧ w'.heap[M]? = W2.heap[M]?
theorem app_pairX (ty : TypeId) {base n M g cap : Nat} {xs : List Value} {W2 u : World} (ho : u.ownsRow base 177 2 (.slice (some ⟨g, 0, none⟩) n cap) n xs) (hbm : base = M + 1) (hn : n ≤ 4000000) (hb : Below M W2 u) (hm : u.heap[M]? = W2.heap[M]?)
    {x y : Addr} (E : World) (hE : Below u.heap.size u E) (gn : Nat) (h0 : E.cell? ⟨gn, 0, none⟩ = some (.pointer (some x))) (h1 : E.cell? ⟨gn, 1, none⟩ = some (.pointer (some y))) :
    ∃ v' w', (Builtin.append_ #[178, 178] ty #[.slice (some ⟨g, 0, none⟩) n cap, .slice (some ⟨gn, 0, none⟩) 1 1]).run Try.prog E = .ok v' w' ∧ AppPX base (n + 1) M (xs ++ [.pointer (some x), .pointer (some y)]) W2 v' w' := by
  obtain ⟨i0, hi, hz0, hz1, hz2⟩ := info_parts infoPX
  have hgl := ho.lt g rfl
  have hs := hE.size
  have hoE : E.ownsRow base 177 2 (.slice (some ⟨g, 0, none⟩) n cap) n xs := ho.kept ⟨hE.os, hE.tape, hE.output, hE.size, fun k hk _ => hE.block k hk⟩ (.inr (by simp [Value.ownBlock]) : _ ∨ _ ≠ (none : Option Nat))
  obtain ⟨v', w', hr, ho', hg, _, _⟩ := run_append_own_at (P := Try.prog) E base 178 ty 177 i0 _ 2 16 Try.underlying178 hi hz0 hz1 hz2 rfl (by decide) _ n xs hoE ⟨gn, 0, none⟩ 1 1 [.pointer (some x), .pointer (some y)] rfl (fun j u hj => by
      match j, hj with
      | 0, hj => simp at hj; subst hj; exact h0
      | 1, hj => simp at hj; subst hj; simpa [Addr.add] using h1) (fun u hu => by simp at hu; rcases hu with rfl | rfl <;> rfl) (by unfold maxLen; omega) (by omega) (by omega)
  obtain ⟨g', cap', rfl⟩ := own_form ho'
  refine ⟨_, w', hr, g', cap', rfl, ho', hb.trans ((hE.mono (by omega)).trans (grown_below (w := E) (g := g) hg (by omega) (by omega))), ?_⟩
  rw [← hm, ← hE.block M (by omega)]
  exact hg.block M (by omega) (by simp [Value.ownBlock]; omega)
theorem drewN_below (w : World) (n : Nat) (B : Nat) : Below B w (w.drewN n) := ⟨rfl, rfl, rfl, Nat.le_refl _, fun _ _ => rfl⟩
theorem wcells_step {N : List (Pr Ex)} (W : List (Pr Ex)) {k : Nat} (hk : k < N.length) : wcells (W ++ N.take (k + 1)) = wcells (W ++ N.take k) ++ [.pointer (some N[k].p), .pointer (some N[k].q)] := by
  rw [List.take_succ_eq_append_getElem hk, ← List.append_assoc, wcells_append (W ++ _) [N[k]], wcells_one]

set_option maxRecDepth 100000 in
set_option maxHeartbeats 4000000 in
theorem treesX_any (e1 e2 : Ex) (x1 x2 : Addr) (B : Nat) (w : World) (h1 : e1.Ptr B w x1) (h2 : e2.Ptr B w x2) (hB : B ≤ w.heap.size) (hs : exTr.sz e1 ≤ 1048577) :
    Calls Try.prog 133 #[.pointer (some x1), .pointer (some x2), .func (.func 134) #[] #[], .func (.func 135) #[] #[]] w fun en w' => en = .returned (.bool (exEq e1 e2)) ∧ Below w.heap.size w w' := by
  have hmm := @run_makeMap Try.prog
  have H0 := Lib.hid (show TMX e1 e2 B w.heap.size w ((w.alloc (.map #[] 0)).alloc (.cells #[.pointer (some x1), .pointer (some x2)] 177)) [⟨x1, x2, e1, e2⟩] [] from by
    have hb : Below w.heap.size w ((w.alloc (.map #[] 0)).alloc (.cells #[.pointer (some x1), .pointer (some x2)] 177)) := ((Below.refl _ _).alloc (Nat.le_refl _) _).alloc (by simp) _
    refine ⟨TInv.start _ _ _ _ _, fun r hr => ?_, (Seen.made w).next (B := 0) (by simp) ((Below.refl _ _).alloc (Nat.zero_le _) _) ((MapKept.heap_alloc _ _).2 _ (by simp)), hb, by rw [left_one]; exact hs⟩
    simp at hr; subst hr
    exact ⟨h1.below (hb.mono hB) (Nat.le_refl _), h2.below (hb.mono hB) (Nat.le_refl _)⟩)
  have HO0 := Lib.hid (show ((w.alloc (.map #[] 0)).alloc (.cells #[.pointer (some x1), .pointer (some x2)] 177)).ownsRow (w.heap.size + 1) 177 2 (.slice (some ⟨w.heap.size + 1, 0, none⟩) 1 1) 1 (wcells [(⟨x1, x2, e1, e2⟩ : Pr Ex)]) from by
    have := World.ownsRow_lit (base := w.heap.size + 1) (e := 177) (size := 2) (w.alloc (.map #[] 0)) #[.pointer (some x1), .pointer (some x2)] 1 (by simp) (by unfold maxLen; omega) rfl
    simpa [wcells_one] using this)
  clear h1 h2
  go_enter Try.func133, Try.ntmps133
  go_wp2_with fail
  go_loopg [10] (left exTr [⟨x1, x2, e1, e2⟩]) (fun m s wr => ∃ (W S : List (Pr Ex)) (g cap n : Nat), m = left exTr W ∧ s = .slice (some ⟨g, 0, none⟩) n cap ∧ RowKit.Hid (n = W.length) ∧ RowKit.Hid (wr.ownsRow (w.heap.size + 1) 177 2 (.slice (some ⟨g, 0, none⟩) n cap) n (wcells W)) ∧ RowKit.Hid (TMX e1 e2 B w.heap.size w wr W S))
  case atStart => exact ⟨_, _, _, _, _, rfl, rfl, Lib.hid rfl, HO0, H0⟩
  case round =>
    obtain ⟨W, S, g, cap, n, hgk, rfl, hn, HO, HM⟩ := hrel
    have HG := Lib.hid hgk
    clear hgk
    rcases List.eq_nil_or_concat W with hW | ⟨W', r, hW⟩
    · have hn0 : n = 0 := by rw [hn.out, hW]; rfl
      have HE := Lib.hid (exEq_true (show e1 = e2 by have := HM.out.inv; rw [hW] at this; exact this.done))
      clear hW
      subst hn0
      go_wp2_with fail
      go_ret
      exact ⟨by rw [HE.out]; rfl, HM.out.blw⟩
    · have hW2 : W = W' ++ [r] := by simpa using hW
      clear hW
      subst hW2
      obtain ⟨xp, xq, ea, eb⟩ := r
      obtain ⟨⟨bp, op, vp, e1, bp1, bp2, p0, p1, p2, pl⟩, ⟨bq, oq, vq, e2, bq1, bq2, q0, q1, q2, ql⟩⟩ := HM.out.ptr ⟨xp, xq, ea, eb⟩ (.inl (by simp))
      simp only at e1 e2
      subst e1 e2
      have HPL := Lib.hid pl.kids
      have HQL := Lib.hid ql.kids
      obtain ⟨pp, pc, rfl, _, hpc, _⟩ := pl
      obtain ⟨qp, qc, rfl, _, hqc, _⟩ := ql
      have hlX : (exTr.kids ea).length = ea.ks.list.length := rfl
      have hlY : (exTr.kids eb).length = eb.ks.list.length := rfl
      simp only at HPL HQL p2 q2 hpc hqc ⊢
      obtain ⟨la, hla⟩ : ∃ la, la = ea.ks.list.length := ⟨_, rfl⟩
      obtain ⟨lb, hlb⟩ : ∃ lb, lb = eb.ks.list.length := ⟨_, rfl⟩
      rw [← hla] at HPL p2 hlX
      rw [← hlb] at HQL q2 hlY
      have HLX := Lib.hid hlX
      have HLY := Lib.hid hlY
      have hlm2 : la ≤ 2000000 := by have := ea.ks.len_le; have h2 : left exTr W' + exTr.sz ea ≤ 1048577 := (by have h := HM.out.lft; rw [left_append, left_one] at h; exact h); have : exTr.sz ea = ea.ks.size + 1 := rfl; omega
      have HP2 := Lib.hid p2
      have HQ2 := Lib.hid q2
      have hlb2 : lb ≤ 9223372036854775807 := by unfold maxLen at hqc; have := HQL.out; obtain ⟨_, _, e, h1, _⟩ := this; simp only [Value.slice.injEq] at e; omega
      clear hlX hlY hla hlb
      obtain ⟨m, hm⟩ : ∃ m, m = W'.length := ⟨_, rfl⟩
      have hnm : n = m + 1 := by rw [hn.out]; simp [hm]
      subst hnm
      have hlm : m + 1 ≤ 1048577 := by have := length_left exTr (W' ++ [⟨⟨bp, op, none⟩, ⟨bq, oq, none⟩, ea, eb⟩]); have := HM.out.lft; simp at *; omega
      have hcap : m + 1 ≤ cap ∧ cap ≤ 9223372036854775807 := by
        rcases HO.out.2 with ⟨h, _⟩ | ⟨g', cap', cur, h, _, _, h1, h2, _⟩
        · cases h
        · cases h; exact ⟨h1, h2⟩
      have hg : w.heap.size + 1 ≤ g ∧ g < wr.heap.size := HO.out.lt g rfl
      have c0 : wr.cell? ⟨g, m * 2, none⟩ = some (.pointer (some ⟨bp, op, none⟩)) := by rw [HO.out.cellAt _ (by omega), hm]; exact (wcells_last W' _).1
      have c1 : wr.cell? ⟨g, m * 2 + 1, none⟩ = some (.pointer (some ⟨bq, oq, none⟩)) := by rw [HO.out.cellAt _ (by omega), hm]; exact (wcells_last W' _).2
      have HM' := Lib.hid hm
      have HOP := Lib.hid (show wr.ownsRow (w.heap.size + 1) 177 2 (.slice (some ⟨g, 0, none⟩) m cap) m (wcells W') from by
        have h := HO.out; rw [wcells_append] at h; exact ownsRow_pop (by rw [wcells_length, hm]) h)
      have HLP := Lib.hid (show left exTr W' < left exTr (W' ++ [⟨⟨bp, op, none⟩, ⟨bq, oq, none⟩, ea, eb⟩]) by rw [left_append, left_one]; exact Nat.lt_add_of_pos_right (sz_pos _ _))
      clear hm hn p0 p1 p2 q0 q1 q2 bp2 bq2 hpc hqc
      obtain ⟨W1, eW⟩ : ∃ W1, W1 = wr.alloc (.cells #[.pointer (some ⟨bp, op, none⟩), .pointer (some ⟨bq, oq, none⟩)] 177) := ⟨_, rfl⟩
      have hb1 : Below wr.heap.size wr W1 := by rw [eW]; exact (Below.refl _ _).alloc (Nat.le_refl _) _
      have HM1 := Lib.hid (HM.out.grow hB hb1)
      have HB1 := Lib.hid hb1
      have hs1 : wr.heap.size < W1.heap.size := by rw [eW]; simp
      have HBX := Lib.hid (show W1.cell? ⟨wr.heap.size, 0, none⟩ = some (.pointer (some ⟨bp, op, none⟩)) ∧ W1.cell? ⟨wr.heap.size, 1, none⟩ = some (.pointer (some ⟨bq, oq, none⟩)) by rw [eW]; constructor <;> simp [go_sem])
      have EW := Lib.hid eW
      have HAL := Lib.hid (show PAlive W1 (⟨bp, op, none⟩, ⟨bq, oq, none⟩) from ⟨(HM1.out.ptr _ (.inl (List.mem_append_right _ (List.mem_singleton.2 rfl)))).1.alive, (HM1.out.ptr _ (.inl (List.mem_append_right _ (List.mem_singleton.2 rfl)))).2.alive⟩)
      clear eW hb1
      by_cases hin : (⟨bp, op, none⟩, ⟨bq, oq, none⟩) ∈ S.map Pr.pa
      · have HIN := Lib.hid hin
        have hd : decide ((⟨bp, op, none⟩, ⟨bq, oq, none⟩) ∈ S.map Pr.pa) = true := decide_eq_true hin
        clear hin
        go_wp2_with (at_lookup; rw [← EW.out]; refine wpList_lookup_seen pairTyX _ rfl _ _ 175 4 rfl Try.underlying175 zeroB w.heap.size _ rfl HM1.out.seen (⟨bp, op, none⟩, ⟨bq, oq, none⟩) rfl HAL.out ?_)
        go_roundg (left exTr W')
        case rel => exact ⟨W', S, g, cap, m, rfl, rfl, HM', Lib.hid (HOP.out.kept ⟨HB1.out.os, HB1.out.tape, HB1.out.output, HB1.out.size, fun k hk _ => HB1.out.block k hk⟩ (.inr (by simp [Value.ownBlock]) : _ ∨ _ ≠ (none : Option Nat))), Lib.hid (HM1.out.skip HIN.out)⟩
        case measure => have := HG.out; have := HLP.out; omega
      · have HNI := Lib.hid hin
        have hd : decide ((⟨bp, op, none⟩, ⟨bq, oq, none⟩) ∈ S.map Pr.pa) = false := decide_eq_false hin
        clear hin
        obtain ⟨bx0, bx1⟩ := HBX.out
        go_wp2_with (first | (at_lookup; rw [← EW.out]; refine wpList_lookup_seen pairTyX _ rfl _ _ 175 4 rfl Try.underlying175 zeroB w.heap.size _ rfl HM1.out.seen (⟨bp, op, none⟩, ⟨bq, oq, none⟩) rfl HAL.out ?_) | (at_mapUpdate; refine wpList_update_seen pairTyX _ rfl _ _ _ 175 4 rfl Try.underlying175 w.heap.size _ rfl HM1.out.seen (⟨bp, op, none⟩, ⟨bq, oq, none⟩) rfl rfl HAL.out HNI.out ?_; intro W2 hs2 hg2 hz2))
        have hbM : Below w.heap.size W1 W2 := grown_below hg2 (Nat.le_refl _) (by omega)
        have hB2 : Below B wr W2 := (HB1.out.mono (by omega)).trans (hbM.mono hB)
        have d0 : W2.cell? ⟨bp, op + 2, none⟩ = some (.slice pp la pc) := keepc hB2 bp1 HP2.out
        have d1 : W2.cell? ⟨bq, oq + 2, none⟩ = some (.slice qp lb qc) := keepc hB2 bq1 HQ2.out
        have by0 : W2.cell? ⟨wr.heap.size, 0, none⟩ = some (.pointer (some ⟨bp, op, none⟩)) := (World.cell?_of_block (w := W1) (a := ⟨wr.heap.size, 0, none⟩) (hg2.block wr.heap.size hs1 (by simp; omega))).trans bx0
        have by1 : W2.cell? ⟨wr.heap.size, 1, none⟩ = some (.pointer (some ⟨bq, oq, none⟩)) := (World.cell?_of_block (w := W1) (a := ⟨wr.heap.size, 1, none⟩) (hg2.block wr.heap.size hs1 (by simp; omega))).trans bx1
        have HPA := Lib.hid (show ∀ u, Below B W2 u → ea.Ptr B u ⟨bp, op, none⟩ ∧ eb.Ptr B u ⟨bq, oq, none⟩ from fun u hu => by
          have h := HM.out.ptr ⟨⟨bp, op, none⟩, ⟨bq, oq, none⟩, ea, eb⟩ (.inl (by simp))
          exact ⟨h.1.below (hB2.trans hu) (Nat.le_refl _), h.2.below (hB2.trans hu) (Nat.le_refl _)⟩)
        have HS2 := Lib.hid hs2
        have HBM := Lib.hid hbM
        have HOP2 := Lib.hid (show W2.ownsRow (w.heap.size + 1) 177 2 (.slice (some ⟨g, 0, none⟩) m cap) m (wcells W') from
          (HOP.out.kept ⟨HB1.out.os, HB1.out.tape, HB1.out.output, HB1.out.size, fun k hk _ => HB1.out.block k hk⟩ (.inr (by simp [Value.ownBlock]) : _ ∨ _ ≠ (none : Option Nat))).kept hg2 (.inr (by simp [Value.ownBlock]; omega)))
        have hz3 : wr.heap.size < W2.heap.size := by omega
        clear hs2 hg2 hbM hB2 bx0 bx1
        go_quiet ((go_at_call 135; first | with_reducible exact Calls.quiet_of_same (exKids_q bp op _ _ _ d0 _ _ _ rfl) | with_reducible exact Calls.quiet_of_same (exKids_q bq oq _ _ _ d1 _ _ _ rfl)))
        by_cases hl : la = lb
        · subst hl
          cases htop : exTop ea eb with
          | false =>
            have HT := Lib.hid htop
            have HE := Lib.hid (exEq_false (HM.out.inv.differ (.inl htop)))
            clear htop
            go_wp2_with (go_at_call 134; refine (exTops_any ea eb _ _ B _ (HPA.out _ (drewN_below _ _ _)).1 (HPA.out _ (drewN_below _ _ _)).2).mono ?_; rintro en W3 ⟨hen, hb3⟩; rw [HT.out] at hen; subst hen)
            go_ret
            exact ⟨by rw [HE.out]; rfl, HM1.out.blw.trans (HBM.out.trans ((drewN_below W2 _ _).trans (hb3.mono (by show w.heap.size ≤ W2.heap.size; omega))))⟩
          | true =>
            have HT := Lib.hid htop
            clear htop
            go_wp2_with (go_at_call 134; refine (exTops_any ea eb _ _ B _ (HPA.out _ (drewN_below _ _ _)).1 (HPA.out _ (drewN_below _ _ _)).2).mono ?_; rintro en W3 ⟨hen, hb3⟩; rw [HT.out] at hen; subst hen)
            have hz4 : w.heap.size < W2.heap.size := by have := HS2.out.lt; omega
            have HB3 := Lib.hid (show Below W2.heap.size W2 W3 from (drewN_below W2 _ _).trans hb3)
            have HM3 := Lib.hid (HB3.out.block w.heap.size hz4)
            have HO3 := Lib.hid (show W3.ownsRow (w.heap.size + 1) 177 2 (.slice (some ⟨g, 0, none⟩) m cap) m (wcells W') from
              HOP2.out.kept ⟨HB3.out.os, HB3.out.tape, HB3.out.output, HB3.out.size, fun k hk _ => HB3.out.block k hk⟩ (.inr (by simp [Value.ownBlock]) : _ ∨ _ ≠ (none : Option Nat)))
            obtain ⟨N, hkp, hNl, hNp, hNi⟩ := kidsX (xp := ⟨bp, op, none⟩) (xq := ⟨bq, oq, none⟩) HPL.out HQL.out
            have HKP := Lib.hid hkp
            have HNL := Lib.hid hNl
            have HNP := Lib.hid hNp
            have HNI2 := Lib.hid hNi
            have HLE := Lib.hid (show ea.ks.list.length = eb.ks.list.length by have a := HLX.out; have b := HLY.out; exact a.trans b.symm)
            clear hb3 hkp hNl hNp hNi by0 by1 d0 d1 c0 c1
            obtain ⟨wo, rfl⟩ : ∃ wo : World, wo = wr := ⟨_, rfl⟩
            go_loopw [10, 63] (fun s i u => ∃ (k g' cap' : Nat), k ≤ la ∧ i = .int .i64 k ∧ s = .slice (some ⟨g', 0, none⟩) (m + k) cap' ∧ RowKit.Hid (u.ownsRow (w.heap.size + 1) 177 2 (.slice (some ⟨g', 0, none⟩) (m + k) cap') (m + k) (wcells (W' ++ N.take k))) ∧ RowKit.Hid (Below w.heap.size W2 u ∧ u.heap[w.heap.size]? = W2.heap[w.heap.size]?)) (fun _ i _ => la - (intOf i).toNat)
            case atStart => exact ⟨0, g, cap, Nat.zero_le _, rfl, rfl, Lib.hid (by rw [List.take_zero, List.append_nil]; exact HO3.out), Lib.hid ⟨HB3.out.mono (by omega), HM3.out⟩⟩
            case round =>
              obtain ⟨k, g', cap', hk, rfl, rfl, HOK, HBK⟩ := hrel
              by_cases hlt : k < la
              · obtain ⟨bk, ok, bk', ok', f1, f2, f3, f4⟩ := HNI2.out k (by have := HNL.out; omega)
                subst f1 f2
                have HW := Lib.hid (wcells_step W' (N := N) (k := k) (by have := HNL.out; omega))
                have HF3 := Lib.hid f3
                have HF4 := Lib.hid f4
                have hgl := HOK.out.lt g' rfl
                clear f3 f4
                have HST := Lib.hid (fun (E : World) (hE : Below wr.heap.size wr E) (gn : Nat) (h0 : E.cell? ⟨gn, 0, none⟩ = some (.pointer (some ⟨bk, ok + k * 3, none⟩))) (h1 : E.cell? ⟨gn, 1, none⟩ = some (.pointer (some ⟨bk', ok' + k * 3, none⟩))) =>
                  app_pairX 178 (M := w.heap.size) HOK.out rfl (by omega) HBK.out.1 HBK.out.2 E hE gn h0 h1)
                go_wp2_with fail
                go_region_law (first
                  | (refine step_app_pair (by rfl) (.tmp 66) (.tmp 74) 178 (by rfl) _ _ (by rfl) (by rfl) _ (HST.out _ (by ((repeat (first | with_reducible assumption | with_reducible exact Below.refl _ _ | refine Below.setCell ?_ (by (first | omega | (simp; omega) | (simp; done) | fail "sml")) _ | refine Below.drew ?_ | refine Below.alloc ?_ (by (first | omega | (simp; omega) | (simp; done) | fail "sml")) _)); first | done | fail "chs")) _ (by simp [go_sem]) (by simp [go_sem])) ?_; intro v2 w2 hv2; obtain ⟨g2, cc2, rfl, ho2, hb2, hm2⟩ := hv2; have HO2 := Lib.hid (show w2.ownsRow (w.heap.size + 1) 177 2 (.slice (some ⟨g2, 0, none⟩) (m + (k + 1)) cc2) (m + (k + 1)) (wcells (W' ++ N.take (k + 1))) by rw [HW.out, HF3.out, HF4.out]; exact ho2); have HB2 := Lib.hid (And.intro hb2 hm2); clear ho2 hb2 hm2)
                  | fail "no arm")
                all_goals go_wp2_with fail
                all_goals (go_roundw; ((case rel => exact ⟨k + 1, g2, cc2, by omega, by go_num, rfl, HO2, HB2⟩)); (case measure => (simp [intOf]; omega)))
              · have hke : k = la := by omega
                subst hke
                go_wp2_with fail
                go_roundg (left exTr (W' ++ N))
                case rel => exact ⟨W' ++ N, ⟨⟨bp, op, none⟩, ⟨bq, oq, none⟩, ea, eb⟩ :: S, g', cap', m + k, rfl, rfl, Lib.hid (by rw [List.length_append, HNL.out, ← HM'.out]), Lib.hid (by have h := HOK.out; rw [List.take_of_length_le (by have := HNL.out; omega)] at h; exact h), Lib.hid (HM1.out.push hB HT.out HLE.out HKP.out (HBM.out.trans HBK.out.1) (fun s hs => by
                  have h := HNP.out s hs
                  have hb : Below B wo wr := (HB1.out.mono (by omega)).trans ((HBM.out.trans HBK.out.1).mono hB)
                  exact ⟨h.1.below hb (Nat.le_refl _), h.2.below hb (Nat.le_refl _)⟩) (HS2.out.next (B := B) (fun y hy => by
                  have hx : ∃ r, (r ∈ W' ++ [⟨⟨bp, op, none⟩, ⟨bq, oq, none⟩, ea, eb⟩] ∨ r ∈ S) ∧ Pr.pa r = y := by
                    rcases List.mem_cons.1 hy with rfl | hy
                    · exact ⟨⟨⟨bp, op, none⟩, ⟨bq, oq, none⟩, ea, eb⟩, .inl (by simp), rfl⟩
                    · obtain ⟨r, hr, e⟩ := List.mem_map.1 hy; exact ⟨r, .inr hr, e⟩
                  obtain ⟨r, hr, rfl⟩ := hx
                  obtain ⟨⟨b, o, v, e, h1, _⟩, ⟨b', o', v', e', h2, _⟩⟩ := HM.out.ptr r hr
                  exact ⟨by show r.p.block < B; rw [e]; exact h1, by show r.q.block < B; rw [e']; exact h2⟩) (HBK.out.1.mono hB) HBK.out.2))⟩
                case measure =>
                  have a := HG.out
                  have b := HKP.out.left
                  rw [left_append, left_one] at a
                  rw [left_append]
                  simp only at b a
                  omega
        · have HE := Lib.hid (exEq_false (HM.out.inv.differ (.inr (by have a := HLX.out; have b := HLY.out; show ¬ (exTr.kids ea).length = (exTr.kids eb).length; omega))))
          have t1 : ((la : Int) == (lb : Int)) = false := by rw [beq_eq_false_iff_ne]; omega
          have t2 : ((la : Int) != (lb : Int)) = true := by rw [bne_iff_ne]; omega
          go_wp2_with fail
          go_ret
          exact ⟨by rw [HE.out]; rfl, HM1.out.blw.trans (HBM.out.trans (drewN_below W2 _ _))⟩
end Go.Proofs.Ytggpnnoldjpmcaa
