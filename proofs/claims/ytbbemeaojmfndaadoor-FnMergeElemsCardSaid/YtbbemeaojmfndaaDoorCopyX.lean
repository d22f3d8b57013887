/- Copies of expressions: impl.copyExpr, spec.l2Copy. -/
import Derived.Test.YtbbemeaojmfndaaDoorM0q0p1
import Derived.Deep.RegionLaw
import Derived.Test.YtbbemeaojmfndaaDoorExTo
namespace Go.Proofs.YtbbemeaojmfndaaDoor
open Go.RowKit

/-- An expression's own three cells. -/
structure Sh where
  o : Int
  a : ByteArray
  p : Option Addr
  n : Nat
  cap : Nat
def Sh.cells (x : Sh) : List Value := [.int .i64 x.o, .string x.a, .slice x.p x.n x.cap]
/-- The parts of the rows xs are f's, in the blocks F. -/
def Deep (w : World) : Fo → List Sh → List Nat → Prop
  | .nil, xs, F => xs = [] ∧ F = []
  | .cons o a k r, xs, F => ∃ x ys F1 F2, xs = x :: ys ∧ F = F1 ++ F2 ∧ (∀ y ∈ F1, y ∉ F2) ∧ x.o = o ∧ x.a = a ∧ k.Own w (.slice x.p x.n x.cap) F1 ∧ Deep w r ys F2
theorem Deep.len {w : World} {f : Fo} : ∀ {xs : List Sh} {F : List Nat}, Deep w f xs F → xs.length = f.list.length := by
  induction f with
  | nil => intro xs F h; rw [h.1]; rfl
  | cons o a k r _ ih =>
    intro xs F h
    obtain ⟨x, ys, F1, F2, rfl, _, _, _, _, _, h⟩ := h
    simp [Fo.list, ih h]
theorem Deep.lt {w : World} {f : Fo} : ∀ {xs : List Sh} {F : List Nat}, Deep w f xs F → ∀ x ∈ F, x < w.heap.size := by
  induction f with
  | nil => intro xs F h; rw [h.2]; simp
  | cons o a k r _ ih =>
    intro xs F h y hy
    obtain ⟨x, ys, F1, F2, rfl, rfl, _, _, _, h1, h⟩ := h
    rcases List.mem_append.1 hy with hy | hy
    · exact h1.lt y hy
    · exact ih h y hy
theorem Deep.chg {w w' : World} {G : List Nat} (hc : Chg G w w') {f : Fo} : ∀ {xs : List Sh} {F : List Nat}, Deep w f xs F → (∀ x ∈ F, x ∉ G) → Deep w' f xs F := by
  induction f with
  | nil => intro xs F h _; exact h
  | cons o a k r _ ih =>
    intro xs F h hd
    obtain ⟨x, ys, F1, F2, rfl, rfl, h1, h2, h3, h4, h⟩ := h
    exact ⟨x, ys, F1, F2, rfl, rfl, h1, h2, h3, h4.chg hc (fun y hy => hd y (by simp [hy])), ih h (fun y hy => hd y (by simp [hy]))⟩
theorem Deep.snoc {w : World} {o : Int} {a : ByteArray} {k : Fo} {p : Option Addr} {n cap : Nat} {Fk : List Nat} (hk : k.Own w (.slice p n cap) Fk) {f : Fo} : ∀ {xs : List Sh} {F : List Nat}, Deep w f xs F → (∀ x ∈ F, x ∉ Fk) →
    Deep w (f.app (.cons o a k .nil)) (xs ++ [⟨o, a, p, n, cap⟩]) (F ++ Fk) := by
  induction f with
  | nil =>
    intro xs F h _
    obtain ⟨rfl, rfl⟩ := h
    exact ⟨⟨o, a, p, n, cap⟩, [], Fk, [], rfl, by simp, by simp, rfl, rfl, hk, rfl, rfl⟩
  | cons o' a' k' r _ ih =>
    intro xs F h hd
    obtain ⟨x, ys, F1, F2, rfl, rfl, h1, h2, h3, h4, h⟩ := h
    refine ⟨x, ys ++ [⟨o, a, p, n, cap⟩], F1, F2 ++ Fk, rfl, by simp, fun y hy hy2 => ?_, h2, h3, h4, ih h (fun y hy => hd y (by simp [hy]))⟩
    rcases List.mem_append.1 hy2 with hy2 | hy2
    · exact h1 y hy hy2
    · exact hd y (by simp [hy]) hy2
theorem Deep.row {w : World} {f : Fo} : ∀ {xs : List Sh} {F : List Nat} {c : Nat → Option Value}, Deep w f xs F → (∀ (i : Nat) (hi : i < xs.length) (j : Nat) (x : Value), (xs[i].cells)[j]? = some x → c (i * 3 + j) = some x) → f.ORow w c F := by
  induction f with
  | nil => intro xs F c h _; exact h.2
  | cons o a k r _ ih =>
    intro xs F c h hc
    obtain ⟨x, ys, F1, F2, rfl, rfl, h1, rfl, rfl, h4, h⟩ := h
    refine Fo.orow_cons.2 ⟨?_, ?_, _, F1, F2, rfl, h1, ?_, h4, ih h fun i hi j y hy => ?_⟩
    · exact hc 0 (by simp) 0 _ rfl
    · exact hc 0 (by simp) 1 _ rfl
    · exact hc 0 (by simp) 2 _ rfl
    · have := hc (i + 1) (by simpa using hi) j y (by simpa using hy)
      show c (i * 3 + j + 3) = some y
      rw [← this]; congr 1; omega
theorem Deep.own {w : World} {T : TypeId} {f : Fo} {xs : List Sh} {v : Value} {Fs Fd : List Nat} (ho : OwnS 3 Sh.cells T w v xs Fs) (hd : Deep w f xs Fd) (hx : ∀ x ∈ Fs, x ∉ Fd) : f.Own w v (Fs ++ Fd) := by
  have hl := hd.len
  have hs := OwnS.own (enc := Sh.cells) (fun _ => rfl) ho
  obtain ⟨p, cap, rfl, h2, h3, h4⟩ := ho
  refine ⟨p, cap, by rw [hl], by rw [← hl]; exact h2, h3, ?_⟩
  rcases h4 with ⟨h4, rfl, _⟩ | ⟨b, cur, rfl, rfl, hg, _, _⟩
  · subst h4
    have hf : f.list = [] := List.eq_nil_of_length_eq_zero hl.symm
    have := Fo.list_nil hf
    subst this
    exact .inl ⟨rfl, by rw [hd.2]; rfl⟩
  · refine .inr ⟨b, Fd, rfl, rfl, hx b (by simp), (Array.getElem?_eq_some_iff.1 hg).1, fun o => by simp [World.frozen?, hg], hd.row fun i hi j x hxx => ?_⟩
    obtain ⟨p', len', cap', e1, _, _, _, e5⟩ := hs
    cases e1
    rcases e5 with ⟨e5, _⟩ | ⟨b', off', e6, _, _, _, e7⟩
    · subst e5; simp at hi
    · cases e6
      have := e7 i hi j x hxx
      rw [Nat.zero_add] at this; exact this
/-- The first k of a row have been copied; v is the row so far. -/
def CpInv (f : Fo) (lo : Nat) (wr : World) (k : Nat) (v : Value) : Prop :=
  ∃ (g h : Fo) (xs : List Sh) (Fs Fd : List Nat), f = g.app h ∧ g.list.length = k ∧ OwnS 3 Sh.cells 25 wr v xs Fs ∧ Deep wr g xs Fd ∧ (∀ x ∈ Fs, lo ≤ x) ∧ (∀ x ∈ Fd, lo ≤ x) ∧ (∀ x ∈ Fs, x ∉ Fd)
theorem CpInv.nil (f : Fo) (lo : Nat) (w : World) : CpInv f lo w 0 (.slice none 0 0) :=
  ⟨.nil, f, [], [], [], rfl, rfl, ⟨none, 0, rfl, Nat.le_refl _, Nat.zero_le _, .inl ⟨rfl, rfl, rfl⟩⟩, ⟨rfl, rfl⟩, by simp, by simp, by simp⟩
theorem CpInv.form {f : Fo} {lo : Nat} {wr : World} {k : Nat} {v : Value} (h : CpInv f lo wr k v) : ∃ p n c, v = .slice p n c := by
  obtain ⟨g, h, xs, Fs, Fd, _, _, ⟨p, cap, rfl, _⟩, _⟩ := h; exact ⟨_, _, _, rfl⟩
theorem CpInv.chg {f : Fo} {lo : Nat} {wr w' : World} {k : Nat} {v : Value} {G : List Nat} (h : CpInv f lo wr k v) (hc : Chg G wr w') (hG : ∀ x ∈ G, x < lo) : CpInv f lo w' k v := by
  obtain ⟨g, h, xs, Fs, Fd, h1, h2, h3, h4, h5, h6, h7⟩ := h
  exact ⟨g, h, xs, Fs, Fd, h1, h2, h3.chg hc (fun x hx hx2 => by have := h5 x hx; have := hG x hx2; omega), h4.chg hc (fun x hx hx2 => by have := h6 x hx; have := hG x hx2; omega), h5, h6, h7⟩
theorem CpInv.done {f : Fo} {lo : Nat} {wr : World} {v : Value} (h : CpInv f lo wr f.list.length v) : ∃ F, f.Own wr v F ∧ ∀ x ∈ F, lo ≤ x := by
  obtain ⟨g, h, xs, Fs, Fd, h1, h2, h3, h4, h5, h6, h7⟩ := h
  have hl : f.list = g.list ++ h.list := by rw [h1, Fo.list_app]
  have hh : h = .nil := Fo.list_nil (List.eq_nil_of_length_eq_zero (by have := congrArg List.length hl; simp at this; omega))
  subst hh
  rw [Fo.app_nil] at h1
  subst h1
  refine ⟨Fs ++ Fd, h4.own h3 h7, fun x hx => ?_⟩
  rcases List.mem_append.1 hx with hx | hx
  · exact h5 x hx
  · exact h6 x hx
theorem infoX : (Tryd.prog.info? 25).map (fun i => (i.zero, i.size, i.bytes)) = some (some (.agg #[.int .i64 0, .string ⟨#[]⟩, .slice none 0 0]), 3, 48) := by kernel_rfl
/-- One more copy, appended. -/
def CpNext (f : Fo) (lo k : Nat) (E : World) (v' : Value) (w' : World) : Prop := (∃ p n c, v' = .slice p n c ∧ CpInv f lo w' (k + 1) (.slice p n c)) ∧ Below lo E w'
theorem CpInv.step {f : Fo} {lo : Nat} {wr : World} {k : Nat} {v : Value} (h : CpInv f lo wr k v) (hk : k < f.list.length) (hlen : f.list.length ≤ 2000000) (hlo : lo ≤ wr.heap.size) (ty : TypeId) (E : World) (hE : Below wr.heap.size wr E) (p : Option Addr) (n c : Nat) (Fk : List Nat)
    (ho : f.list[k].ks.Own E (.slice p n c) Fk) (hF : ∀ x ∈ Fk, wr.heap.size ≤ x) (g : Nat) (h0 : E.cell? ⟨g, 0, none⟩ = some (.int .i64 f.list[k].op)) (h1 : E.cell? ⟨g, 1, none⟩ = some (.string f.list[k].a)) (h2 : E.cell? ⟨g, 2, none⟩ = some (.slice p n c)) :
    ∃ v' w', (Builtin.append_ #[23, 23] ty #[v, .slice (some ⟨g, 0, none⟩) 1 1]).run Tryd.prog E = .ok v' w' ∧ CpNext f lo k E v' w' := by
  obtain ⟨g', h, xs, Fs, Fd, e1, e2, e3, e4, e5, e6, e7⟩ := h
  have hlist : f.list = g'.list ++ h.list := by rw [e1, Fo.list_app]
  have hwf := e3.lt
  have hwd := e4.lt
  have hx := e4.len
  obtain ⟨i, hi, hz0, hz1, hz2⟩ := info_parts infoX
  obtain ⟨v', w', hr, F', ho', hF', hc'⟩ := OwnS.append (enc := Sh.cells) (fun _ => rfl) (fun x u hu => by simp [Sh.cells] at hu; rcases hu with rfl | rfl | rfl <;> rfl) 23 ty 25 i _ 48 Tryd.underlying23 hi hz0 hz1 hz2 rfl
    (e3.below hE) ⟨f.list[k].op, f.list[k].a, p, n, c⟩ g 1 (fun j u hu => by
      match j, hu with
      | 0, hu => simp [Sh.cells] at hu; subst hu; exact h0
      | 1, hu => simp [Sh.cells] at hu; subst hu; exact h1
      | 2, hu => simp [Sh.cells] at hu; subst hu; exact h2
      | j + 3, hu => simp [Sh.cells] at hu) (by omega) (by omega)
  refine ⟨v', w', hr, ?_, hc'.below (Nat.le_trans hlo hE.size) e5⟩
  obtain ⟨q, cq, rfl, _⟩ := id ho'
  cases h with
  | nil => rw [hlist] at hk; simp [Fo.list] at hk; omega
  | cons o a ks h =>
    have he : f.list[k] = ⟨o, a, ks⟩ := by
      simp only [hlist]
      rw [List.getElem_append_right (by omega)]
      simp [e2, Fo.list]
    rw [he] at ho ho'
    have hE0 := hE.size
    refine ⟨_, _, _, rfl, g'.app (.cons o a ks .nil), h, _, F', Fd ++ Fk, ?_, ?_, by rw [he]; exact ho', Deep.snoc (ho.chg hc' fun x hx hx2 => ?_) (Deep.chg hc' (Deep.chg (Chg.of_below hE []) e4 (by simp)) fun x hx hx2 => e7 x hx2 hx) (fun x hx hx2 => ?_), ?_, ?_, ?_⟩
    · rw [e1, Fo.app_assoc]; rfl
    · rw [Fo.list_app]; simp [Fo.list, e2]
    · have := hF x hx; have := hwf x hx2; omega
    · have := hwd x hx; have := hF x hx2; omega
    · intro x hx
      rcases hF' x hx with hx | hx
      · exact e5 x hx
      · omega
    · intro x hx
      rcases List.mem_append.1 hx with hx | hx
      · exact e6 x hx
      · have := hF x hx; omega
    · intro x hx hx2
      have hk1 := ho.lt
      rcases hF' x hx with hx | hx
      · rcases List.mem_append.1 hx2 with hx2 | hx2
        · exact e7 x hx hx2
        · have := hF x hx2; have := hwf x hx; omega
      · rcases List.mem_append.1 hx2 with hx2 | hx2
        · have := hwd x hx2; omega
        · have := hk1 x hx2; omega
def CopyEx (fn : Nat) (e : Ex) : Prop := ∀ (k : Value) (B : Nat) (w : World), e.ks.In B w k → B ≤ w.heap.size →
  Calls Tryd.prog fn #[.agg #[.int .i64 e.op, .string e.a, k]] w fun en w' => ∃ p c F, en = .returned (.agg #[.int .i64 e.op, .string e.a, .slice p e.ks.list.length c]) ∧ e.ks.Own w' (.slice p e.ks.list.length c) F ∧ (∀ x ∈ F, w.heap.size ≤ x) ∧ Below w.heap.size w w'

theorem keepz {B b o : Nat} {w w' : World} (hb : Below B w w') (h : b < B) (hc : w.frozen? ⟨b, o, none⟩ = false) : w'.frozen? ⟨b, o, none⟩ = false := (hb.frozen (p := ⟨b, o, none⟩) h).trans hc
theorem set_off {w : World} (b o b' o' : Nat) {v : Value} (h : b' ≠ b) : (w.setCell ⟨b, o, none⟩ v).cell? ⟨b', o', none⟩ = w.cell? ⟨b', o', none⟩ := World.cell?_of_block (a := ⟨b', o', none⟩) (by simp [World.setCell, Array.getElem?_modify, Ne.symm h])

set_option maxRecDepth 100000 in
set_option maxHeartbeats 8000000 in
theorem copyExprN (n : Nat) : ∀ e : Ex, e.ks.size ≤ n → n ≤ 2000000 → CopyEx 58 e := by
  induction n using Nat.strongRecOn with
  | _ n ih =>
    intro e hn hmax k B w hk hB
    have IH := Lib.hid ih
    clear ih
    obtain ⟨p, cap, rfl⟩ := hk.form
    obtain ⟨hx0, hm1, hm2⟩ := hk.max
    clear hx0
    unfold maxLen at hm2
    have hln : e.ks.list.length ≤ 2000000 := by have := e.ks.len_le; omega
    have HK := Lib.hid hk
    clear hk
    have HW := Lib.hid (show Below w.heap.size w (((w.alloc (.cells #[.int .i64 e.op, .string e.a, .slice p e.ks.list.length cap] 25)).alloc (.cells #[.int .i64 0, .string ⟨#[]⟩, .slice none 0 0] 25)).alloc (.cells #[.int .i64 e.op, .string e.a, .slice none 0 0] 25)) from (((Below.refl w.heap.size w).alloc (by (first | omega | (simp; omega) | (simp; done) | fail "sml")) _).alloc (by (first | omega | (simp; omega) | (simp; done) | fail "sml")) _).alloc (by (first | omega | (simp; omega) | (simp; done) | fail "sml")) _)
    have HI0 := Lib.hid (fun W => CpInv.nil e.ks (w.heap.size + 3) W)
    go_enter Tryd.func58, Tryd.ntmps58
    go_wp2_with fail
    go_loopw [14] (fun i wr => ∃ (m : Nat) (q : Option Addr) (nq cq : Nat), m ≤ e.ks.list.length ∧ i = .int .i64 (m : Int) ∧ RowKit.Hid (CpInv e.ks (w.heap.size + 3) wr m (.slice q nq cq)) ∧ w.heap.size + 3 ≤ wr.heap.size ∧ RowKit.Hid (Below w.heap.size w wr) ∧
        wr.cell? ⟨w.heap.size, 2, none⟩ = some (.slice p e.ks.list.length cap) ∧ wr.cell? ⟨w.heap.size + 1 + 1, 0, none⟩ = some (.int .i64 e.op) ∧ wr.cell? ⟨w.heap.size + 1 + 1, 1, none⟩ = some (.string e.a) ∧ wr.cell? ⟨w.heap.size + 1 + 1, 2, none⟩ = some (.slice q nq cq) ∧ wr.frozen? ⟨w.heap.size + 1 + 1, 2, none⟩ = false ∧
        wr.cell? ⟨w.heap.size + 1, 0, none⟩ = some (.int .i64 0) ∧ wr.cell? ⟨w.heap.size + 1, 1, none⟩ = some (.string ⟨#[]⟩) ∧ wr.cell? ⟨w.heap.size + 1, 2, none⟩ = some (.slice none 0 0) ∧ wr.frozen? ⟨w.heap.size + 1, 0, none⟩ = false ∧ wr.frozen? ⟨w.heap.size + 1, 1, none⟩ = false ∧ wr.frozen? ⟨w.heap.size + 1, 2, none⟩ = false) (fun i _ => e.ks.list.length - (intOf i).toNat)
    case atStart => exact ⟨0, none, 0, 0, Nat.zero_le _, rfl, Lib.hid (HI0.out _), by simp, Lib.hid HW.out, by simp [go_sem], by simp [go_sem], by simp [go_sem], by simp [go_sem], by simp [go_sem], by simp [go_sem], by simp [go_sem], by simp [go_sem], by simp [go_sem], by simp [go_sem], by simp [go_sem]⟩
    case round =>
      obtain ⟨m, q, nq, cq, hm, rfl, HI, hsz, HB, b2, c0, c1, c2, fc, q0, q1, q2, f0, f1, f2⟩ := hrel
      by_cases hlt : m < e.ks.list.length
      · obtain ⟨b, off, r, l, cc, rfl, hb, d0, d1, d2, hin⟩ := (HK.out.below (HB.out.mono hB) (Nat.le_refl _)).get m hlt
        have hlt2 := e.ks.size_get m hlt
        have hih := IH.out e.ks.list[m].ks.size (by omega) e.ks.list[m] (Nat.le_refl _) (by omega)
        have hst := HI.out.step hlt hln hsz 23
        obtain ⟨x, ex⟩ : ∃ x, x = e.ks.list[m] := ⟨_, rfl⟩
        rw [← ex] at d0 d1 hin hih hst
        have HIN := Lib.hid hin
        have HC := Lib.hid hih
        have HST := Lib.hid hst
        clear ex hin hih hst hlt2
        have hbw : b < wr.heap.size := by omega
        have hlx : w.heap.size + 1 + 1 < wr.heap.size := by omega
        go_wp2_with fail
        go_region_law (first
              | (go_simp; go_at_call 58; refine (HC.out _ B _ (HIN.out.below (Below.mono (show Below wr.heap.size wr _ by ((repeat (first | with_reducible assumption | with_reducible exact Below.refl _ _ | refine Below.setCell ?_ (by (first | omega | (simp; omega) | (simp; done) | fail "sml")) _ | refine Below.drew ?_ | refine Below.alloc ?_ (by (first | omega | (simp; omega) | (simp; done) | fail "sml")) _)); first | done | fail "chs")) (by omega)) (Nat.le_refl _)) (by (first | omega | (simp; omega) | (simp; done) | fail "sml"))).mono ?_; rintro en w1 ⟨p1, c1', F1, rfl, ho1, hf1, hb1⟩; have hk1 := Below.trans (show Below wr.heap.size wr _ by ((repeat (first | with_reducible assumption | with_reducible exact Below.refl _ _ | refine Below.setCell ?_ (by (first | omega | (simp; omega) | (simp; done) | fail "sml")) _ | refine Below.drew ?_ | refine Below.alloc ?_ (by (first | omega | (simp; omega) | (simp; done) | fail "sml")) _)); first | done | fail "chs")) (hb1.mono (by (first | omega | (simp; omega) | (simp; done) | fail "sml"))); have hw1 : wr.heap.size ≤ w1.heap.size := hk1.size; have HO1 := Lib.hid ho1; have HF1 := Lib.hid (show ∀ x ∈ F1, wr.heap.size ≤ x from fun x hx => by have := hf1 x hx; (try simp at this); omega); have e2 := keepc hk1 (by omega) c2; have hl1 : w.heap.size + 1 + 1 < w1.heap.size := (by omega); have hk3 := hk1.mono (show w.heap.size + 3 ≤ wr.heap.size by omega); clear ho1 hf1 hb1)
              | (refine step_app_src (by rfl) (.tmp 19) (.tmp 22) 23 (by rfl) _ _ (by rfl) (by rfl) _ (HST.out _ (by ((repeat (first | with_reducible assumption | with_reducible exact Below.refl _ _ | refine Below.setCell ?_ (by (first | omega | (simp; omega) | (simp; done) | fail "sml")) _ | refine Below.drew ?_ | refine Below.alloc ?_ (by (first | omega | (simp; omega) | (simp; done) | fail "sml")) _)); first | done | fail "chs")) _ _ _ _ (HO1.out.below (by ((repeat (first | with_reducible assumption | with_reducible exact Below.refl _ _ | refine Below.setCell ?_ (by (first | omega | (simp; omega) | (simp; done) | fail "sml")) _ | refine Below.drew ?_ | refine Below.alloc ?_ (by (first | omega | (simp; omega) | (simp; done) | fail "sml")) _)); first | done | fail "chs"))) HF1.out _ (by simp [go_sem]) (by simp [go_sem]) (by simp [go_sem])) ?_; intro v2 w2 hv2; obtain ⟨⟨p2, n2, c2', rfl, hi2⟩, hb2⟩ := hv2; have HI2 := Lib.hid hi2; have HBQ := Lib.hid (Below.trans (show Below (w.heap.size + 3) wr _ by ((repeat (first | with_reducible assumption | with_reducible exact Below.refl _ _ | refine Below.drew ?_ | refine Below.alloc ?_ (by (first | omega | (simp; omega) | (simp; done) | fail "sml")) _)); first | done | fail "cht")) hb2); clear hi2 hb2; have g0 := keepc HBQ.out (by omega) c0; have g1 := keepc HBQ.out (by omega) c1; have g2 := keepc HBQ.out (by omega) c2; have g3 := keepz HBQ.out (by omega) fc)
              | fail "no arm")
        all_goals go_wp2_with fail
        all_goals (go_roundw; ((case rel => exact ⟨m + 1, p2, n2, c2', by omega, by go_num, Lib.hid (HI2.out.chg (G := [w.heap.size + 1 + 1]) ((Chg.refl _ _).setCell (by simp) _) (by first | (simp; done) | (simp; omega))), by have := HBQ.out.size; simp; omega, Lib.hid ((HB.out.trans (HBQ.out.mono (by omega))).setCell (by simp; omega) _), (set_off _ _ _ _ (by omega)).trans (keepc HBQ.out (by omega) b2), (set_near _ _ _ _ _ (by decide)).trans g0, (set_near _ _ _ _ _ (by decide)).trans g1, set_same _ _ _ _ _ g2, by simpa [go_sem] using g3, (set_off _ _ _ _ (by omega)).trans (keepc HBQ.out (by omega) q0), (set_off _ _ _ _ (by omega)).trans (keepc HBQ.out (by omega) q1), (set_off _ _ _ _ (by omega)).trans (keepc HBQ.out (by omega) q2), by simpa [go_sem] using keepz HBQ.out (by omega) f0, by simpa [go_sem] using keepz HBQ.out (by omega) f1, by simpa [go_sem] using keepz HBQ.out (by omega) f2⟩)); (case measure => (simp [intOf]; omega)))
      · obtain rfl : m = e.ks.list.length := by omega
        obtain ⟨F, ho, hF⟩ := HI.out.done
        obtain ⟨pf, cf, hf⟩ := ho.in.form
        have HO := Lib.hid ho
        have HF := Lib.hid hF
        cases hf
        clear ho hF
        go_wp2_with fail
        refine bodyPost_ret (v := .agg #[.int .i64 e.op, .string e.a, .slice q e.ks.list.length cq]) (by simp [results, Tryd.results58, go_sem, q0, q1, q2]) rfl ⟨_, _, F, rfl, HO.out.chg (G := [w.heap.size + 1]) ((((Chg.refl _ _).setCell (by simp) _).setCell (by simp) _).setCell (by simp) _) (fun x hx => by have := HF.out x hx; simp; omega), fun x hx => by have := HF.out x hx; omega, ?_⟩
        exact (((HB.out).setCell (by simp) _).setCell (by simp) _).setCell (by simp) _

set_option maxRecDepth 100000 in
set_option maxHeartbeats 8000000 in
theorem l2CopyN (n : Nat) : ∀ e : Ex, e.ks.size ≤ n → n ≤ 2000000 → CopyEx 61 e := by
  induction n using Nat.strongRecOn with
  | _ n ih =>
    intro e hn hmax k B w hk hB
    have IH := Lib.hid ih
    clear ih
    obtain ⟨p, cap, rfl⟩ := hk.form
    obtain ⟨hx0, hm1, hm2⟩ := hk.max
    clear hx0
    unfold maxLen at hm2
    have hln : e.ks.list.length ≤ 2000000 := by have := e.ks.len_le; omega
    have HK := Lib.hid hk
    clear hk
    have HW := Lib.hid (show Below w.heap.size w (((w.alloc (.cells #[.int .i64 e.op, .string e.a, .slice p e.ks.list.length cap] 25)).alloc (.cells #[.int .i64 0, .string ⟨#[]⟩, .slice none 0 0] 25)).alloc (.cells #[.int .i64 e.op, .string e.a, .slice none 0 0] 25)) from (((Below.refl w.heap.size w).alloc (by (first | omega | (simp; omega) | (simp; done) | fail "sml")) _).alloc (by (first | omega | (simp; omega) | (simp; done) | fail "sml")) _).alloc (by (first | omega | (simp; omega) | (simp; done) | fail "sml")) _)
    have HI0 := Lib.hid (fun W => CpInv.nil e.ks (w.heap.size + 3) W)
    go_enter Tryd.func61, Tryd.ntmps61
    go_wp2_with fail
    go_loopw [4] (fun i wr => ∃ (m : Nat) (q : Option Addr) (nq cq : Nat), m ≤ e.ks.list.length ∧ i = .int .i64 (m : Int) ∧ RowKit.Hid (CpInv e.ks (w.heap.size + 3) wr m (.slice q nq cq)) ∧ w.heap.size + 3 ≤ wr.heap.size ∧ RowKit.Hid (Below w.heap.size w wr) ∧
        wr.cell? ⟨w.heap.size, 2, none⟩ = some (.slice p e.ks.list.length cap) ∧ wr.cell? ⟨w.heap.size + 1 + 1, 0, none⟩ = some (.int .i64 e.op) ∧ wr.cell? ⟨w.heap.size + 1 + 1, 1, none⟩ = some (.string e.a) ∧ wr.cell? ⟨w.heap.size + 1 + 1, 2, none⟩ = some (.slice q nq cq) ∧ wr.frozen? ⟨w.heap.size + 1 + 1, 2, none⟩ = false ∧
        wr.cell? ⟨w.heap.size + 1, 0, none⟩ = some (.int .i64 0) ∧ wr.cell? ⟨w.heap.size + 1, 1, none⟩ = some (.string ⟨#[]⟩) ∧ wr.cell? ⟨w.heap.size + 1, 2, none⟩ = some (.slice none 0 0) ∧ wr.frozen? ⟨w.heap.size + 1, 0, none⟩ = false ∧ wr.frozen? ⟨w.heap.size + 1, 1, none⟩ = false ∧ wr.frozen? ⟨w.heap.size + 1, 2, none⟩ = false) (fun i _ => e.ks.list.length - (intOf i).toNat)
    case atStart => exact ⟨0, none, 0, 0, Nat.zero_le _, rfl, Lib.hid (HI0.out _), by simp, Lib.hid HW.out, by simp [go_sem], by simp [go_sem], by simp [go_sem], by simp [go_sem], by simp [go_sem], by simp [go_sem], by simp [go_sem], by simp [go_sem], by simp [go_sem], by simp [go_sem], by simp [go_sem]⟩
    case round =>
      obtain ⟨m, q, nq, cq, hm, rfl, HI, hsz, HB, b2, c0, c1, c2, fc, q0, q1, q2, f0, f1, f2⟩ := hrel
      by_cases hlt : m < e.ks.list.length
      · obtain ⟨b, off, r, l, cc, rfl, hb, d0, d1, d2, hin⟩ := (HK.out.below (HB.out.mono hB) (Nat.le_refl _)).get m hlt
        have hlt2 := e.ks.size_get m hlt
        have hih := IH.out e.ks.list[m].ks.size (by omega) e.ks.list[m] (Nat.le_refl _) (by omega)
        have hst := HI.out.step hlt hln hsz 23
        obtain ⟨x, ex⟩ : ∃ x, x = e.ks.list[m] := ⟨_, rfl⟩
        rw [← ex] at d0 d1 hin hih hst
        have HIN := Lib.hid hin
        have HC := Lib.hid hih
        have HST := Lib.hid hst
        clear ex hin hih hst hlt2
        have hbw : b < wr.heap.size := by omega
        have hlx : w.heap.size + 1 + 1 < wr.heap.size := by omega
        have HS := Lib.hid (show ∀ u, Below (w.heap.size + 1) wr u → u.cell? ⟨w.heap.size, 2, none⟩ = some (.slice (some ⟨b, off, none⟩) e.ks.list.length cap) ∧ u.cell? ⟨b, off + m * 3, none⟩ = some (.int .i64 x.op) ∧ u.cell? ⟨b, off + m * 3 + 1, none⟩ = some (.string x.a) ∧ u.cell? ⟨b, off + m * 3 + 2, none⟩ = some (.slice r l cc) from fun u hu => ⟨keepc hu (by omega) b2, keepc hu (by omega) d0, keepc hu (by omega) d1, keepc hu (by omega) d2⟩)
        go_wp2_with fail
        go_region_law (first
              | (go_simp; go_at_call 61; refine (HC.out _ B _ (HIN.out.below (Below.mono (show Below wr.heap.size wr _ by ((repeat (first | with_reducible assumption | with_reducible exact Below.refl _ _ | refine Below.setCell ?_ (by (first | omega | (simp; omega) | (simp; done) | fail "sml")) _ | refine Below.drew ?_ | refine Below.alloc ?_ (by (first | omega | (simp; omega) | (simp; done) | fail "sml")) _)); first | done | fail "chs")) (by omega)) (Nat.le_refl _)) (by (first | omega | (simp; omega) | (simp; done) | fail "sml"))).mono ?_; rintro en w1 ⟨p1, c1', F1, rfl, ho1, hf1, hb1⟩; have hk1 := Below.trans (show Below wr.heap.size wr _ by ((repeat (first | with_reducible assumption | with_reducible exact Below.refl _ _ | refine Below.setCell ?_ (by (first | omega | (simp; omega) | (simp; done) | fail "sml")) _ | refine Below.drew ?_ | refine Below.alloc ?_ (by (first | omega | (simp; omega) | (simp; done) | fail "sml")) _)); first | done | fail "chs")) (hb1.mono (by (first | omega | (simp; omega) | (simp; done) | fail "sml"))); have hw1 : wr.heap.size ≤ w1.heap.size := hk1.size; have HO1 := Lib.hid ho1; have HF1 := Lib.hid (show ∀ x ∈ F1, wr.heap.size ≤ x from fun x hx => by have := hf1 x hx; (try simp at this); omega); have e2 := keepc hk1 (by omega) c2; have hl1 : w.heap.size + 1 + 1 < w1.heap.size := (by omega); have hk3 := hk1.mono (show w.heap.size + 3 ≤ wr.heap.size by omega); clear ho1 hf1 hb1)
              | (refine step_app_src (by rfl) (.tmp 18) (.tmp 25) 23 (by rfl) _ _ (by rfl) (by rfl) _ (HST.out _ (by ((repeat (first | with_reducible assumption | with_reducible exact Below.refl _ _ | refine Below.setCell ?_ (by (first | omega | (simp; omega) | (simp; done) | fail "sml")) _ | refine Below.drew ?_ | refine Below.alloc ?_ (by (first | omega | (simp; omega) | (simp; done) | fail "sml")) _)); first | done | fail "chs")) _ _ _ _ (HO1.out.below (by ((repeat (first | with_reducible assumption | with_reducible exact Below.refl _ _ | refine Below.setCell ?_ (by (first | omega | (simp; omega) | (simp; done) | fail "sml")) _ | refine Below.drew ?_ | refine Below.alloc ?_ (by (first | omega | (simp; omega) | (simp; done) | fail "sml")) _)); first | done | fail "chs"))) HF1.out _ (by simp [go_sem]) (by simp [go_sem]) (by simp [go_sem])) ?_; intro v2 w2 hv2; obtain ⟨⟨p2, n2, c2', rfl, hi2⟩, hb2⟩ := hv2; have HI2 := Lib.hid hi2; have HBQ := Lib.hid (Below.trans (show Below (w.heap.size + 3) wr _ by ((repeat (first | with_reducible assumption | with_reducible exact Below.refl _ _ | refine Below.drew ?_ | refine Below.alloc ?_ (by (first | omega | (simp; omega) | (simp; done) | fail "sml")) _)); first | done | fail "cht")) hb2); clear hi2 hb2; have g0 := keepc HBQ.out (by omega) c0; have g1 := keepc HBQ.out (by omega) c1; have g2 := keepc HBQ.out (by omega) c2; have g3 := keepz HBQ.out (by omega) fc)
              | fail "no arm")
        all_goals go_wp2_with fail
        all_goals (go_roundw; ((case rel => exact ⟨m + 1, p2, n2, c2', by omega, by go_num, Lib.hid (HI2.out.chg (G := [w.heap.size + 1 + 1]) ((Chg.refl _ _).setCell (by simp) _) (by first | (simp; done) | (simp; omega))), by have := HBQ.out.size; simp; omega, Lib.hid ((HB.out.trans (HBQ.out.mono (by omega))).setCell (by simp; omega) _), (set_off _ _ _ _ (by omega)).trans (keepc HBQ.out (by omega) b2), (set_near _ _ _ _ _ (by decide)).trans g0, (set_near _ _ _ _ _ (by decide)).trans g1, set_same _ _ _ _ _ g2, by simpa [go_sem] using g3, (set_off _ _ _ _ (by omega)).trans (keepc HBQ.out (by omega) q0), (set_off _ _ _ _ (by omega)).trans (keepc HBQ.out (by omega) q1), (set_off _ _ _ _ (by omega)).trans (keepc HBQ.out (by omega) q2), by simpa [go_sem] using keepz HBQ.out (by omega) f0, by simpa [go_sem] using keepz HBQ.out (by omega) f1, by simpa [go_sem] using keepz HBQ.out (by omega) f2⟩)); (case measure => (simp [intOf]; omega)))
      · obtain rfl : m = e.ks.list.length := by omega
        obtain ⟨F, ho, hF⟩ := HI.out.done
        obtain ⟨pf, cf, hf⟩ := ho.in.form
        have HO := Lib.hid ho
        have HF := Lib.hid hF
        cases hf
        clear ho hF
        go_wp2_with fail
        refine bodyPost_ret (v := .agg #[.int .i64 e.op, .string e.a, .slice q e.ks.list.length cq]) (by simp [results, Tryd.results61, go_sem, q0, q1, q2]) rfl ⟨_, _, F, rfl, HO.out.chg (G := [w.heap.size + 1]) ((((Chg.refl _ _).setCell (by simp) _).setCell (by simp) _).setCell (by simp) _) (fun x hx => by have := HF.out x hx; simp; omega), fun x hx => by have := HF.out x hx; omega, ?_⟩
        exact (((HB.out).setCell (by simp) _).setCell (by simp) _).setCell (by simp) _
end Go.Proofs.YtbbemeaojmfndaaDoor
