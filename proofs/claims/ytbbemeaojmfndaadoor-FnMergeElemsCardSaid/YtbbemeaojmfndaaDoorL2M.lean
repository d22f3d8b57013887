/- l2Mutate: an expression like another one. -/
import Derived.Test.YtbbemeaojmfndaaDoorL2C
import Derived.Test.YtbbemeaojmfndaaDoorL2D
namespace Go.Proofs.YtbbemeaojmfndaaDoor
open Go.RowKit

theorem CpInv.full {f : Fo} {lo : Nat} {wr : World} {v : Value} (h : CpInv f lo wr f.list.length v) :
    ∃ (xs : List Sh) (Fs Fd : List Nat), OwnS 3 Sh.cells 25 wr v xs Fs ∧ Deep wr f xs Fd ∧ (∀ x ∈ Fs, lo ≤ x) ∧ (∀ x ∈ Fd, lo ≤ x) ∧ ∀ x ∈ Fs, x ∉ Fd := by
  obtain ⟨g, h, xs, Fs, Fd, h1, h2, h3, h4, h5, h6, h7⟩ := h
  have hl : f.list = g.list ++ h.list := by rw [h1, Fo.list_app]
  have hh : h = .nil := Fo.list_nil (List.eq_nil_of_length_eq_zero (by have := congrArg List.length hl; simp at this; omega))
  subst hh
  rw [Fo.app_nil] at h1
  subst h1
  exact ⟨xs, Fs, Fd, h3, h4, h5, h6, h7⟩
/-- One part more: everything. -/
theorem app_kid {f : Fo} {E : World} {v : Value} {xs : List Sh} {Fs Fd : List Nat} (ho : OwnS 3 Sh.cells 25 E v xs Fs) (hd : Deep E f xs Fd) (hx : ∀ x ∈ Fs, x ∉ Fd) (hl : f.list.length ≤ 60) :
    ∃ v' w', (Builtin.append_ #[23, 23] 23 #[v, .slice (some ⟨E.heap.size, 0, none⟩) 1 1]).run Tryd.prog (E.alloc (.cells #[.int .i64 2, .string ⟨#[]⟩, .slice none 0 0] 25)) = .ok v' w' ∧
      ∃ p c F, v' = .slice p (f.list.length + 1) c ∧ (f.app (.cons 2 ⟨#[]⟩ .nil .nil)).Own w' (.slice p (f.list.length + 1) c) F ∧ (∀ x ∈ F, x ∈ Fs ∨ x ∈ Fd ∨ E.heap.size ≤ x) ∧ Chg Fs E w' := by
  have hlen := hd.len
  have k0 : Chg [] E (E.alloc (.cells #[.int .i64 2, .string ⟨#[]⟩, .slice none 0 0] 25)) := (Chg.refl _ _).alloc _
  obtain ⟨i, hi, hz0, hz1, hz2⟩ := info_parts infoX
  obtain ⟨v', w', hr, F', ho', hF', hc'⟩ := OwnS.append (enc := Sh.cells) (fun _ => rfl) (fun x u hu => by simp [Sh.cells] at hu; rcases hu with rfl | rfl | rfl <;> rfl) 23 23 25 i _ 48 Tryd.underlying23 hi hz0 hz1 hz2 rfl
    (ho.chg k0 (by simp)) ⟨2, ⟨#[]⟩, none, 0, 0⟩ E.heap.size 1 (fun j u hu => by rw [World.cell?_alloc_at _ _ _ _ rfl]; simpa [Sh.cells] using hu) (by omega) (by omega)
  refine ⟨v', w', hr, ?_⟩
  have hl1 := ho.lt
  have hl2 := hd.lt
  have hdd : Deep w' (f.app (.cons 2 ⟨#[]⟩ .nil .nil)) (xs ++ [⟨2, ⟨#[]⟩, none, 0, 0⟩]) (Fd ++ []) := Deep.snoc (Fo.Own.empty w') (Deep.chg hc' (Deep.chg k0 hd (by simp)) (fun x h1 h2 => hx x h2 h1)) (by simp)
  rw [List.append_nil] at hdd
  have hown := Deep.own ho' hdd (fun x h1 h2 => by
    rcases hF' x h1 with h3 | h3
    · exact hx x h3 h2
    · have := hl2 x h2; simp at h3; omega)
  obtain ⟨p, c, e⟩ := hown.in.form
  have hn : (f.app (.cons 2 ⟨#[]⟩ .nil .nil)).list.length = f.list.length + 1 := by rw [Fo.list_app]; simp [Fo.list]
  rw [hn] at e
  subst e
  refine ⟨p, c, F' ++ Fd, rfl, hown, fun x h1 => ?_, (k0.mono (by simp)).trans hc'⟩
  rcases List.mem_append.1 h1 with h1 | h1
  · rcases hF' x h1 with h3 | h3
    · exact .inl h3
    · exact .inr (.inr (by simp at h3; omega))
  · exact .inr (.inl h1)

set_option maxRecDepth 100000 in
set_option maxHeartbeats 16000000 in
theorem l2Mut_any (m : Nat) : ∀ (e : Ex) (k : Value) (B a N : Nat) (w : World), e.ks.In B w k → B ≤ w.heap.size → e.Dn m → m ≤ 60 → Dr w a N → N + 2 * m ≤ 900400 →
    Calls Tryd.prog 57 #[.pointer (some ⟨a, 0, none⟩), .agg #[.int .i64 e.op, .string e.a, k]] w (SomeX (m + 1) (2 * m + 4) a N w) := by
  induction m using Nat.strongRecOn with
  | _ m ih =>
    intro e k B a N w hk hB hdn hm h hN
    have IH := Lib.hid ih
    clear ih
    have hal := h.lt
    obtain ⟨p, cap, rfl⟩ := hk.form
    have hsz : e.ks.size ≤ 2000000 := by have := hdn.2.2; omega
    have hln : e.ks.list.length ≤ 60 := by have := hdn.2.2; have := e.ks.len_le; omega
    have HD := Lib.hid hdn
    have CC := Lib.hid (fun (E : World) (hE : Below B w E) => l2CopyC e hsz _ B E (hk.below hE (Nat.le_refl _)) (by have := hE.size; omega))
    clear hk hdn
    go_enter Tryd.func57, Tryd.ntmps57
    go_wp2_with fail
    obtain ⟨W1, eW1⟩ : ∃ E, E = (w.alloc (.cells #[.int .i64 e.op, .string e.a, .slice p e.ks.list.length cap] 25)).alloc (.cells #[.int .i64 0, .string ⟨#[]⟩, .slice none 0 0] 25) := ⟨_, rfl⟩
    obtain ⟨sW1, sW1'⟩ : w.heap.size + 2 ≤ W1.heap.size ∧ W1.heap.size ≤ w.heap.size + 2 := by rw [eW1]; constructor <;> simp
    have HW1 := Lib.hid (show Chg [] w W1 by rw [eW1]; exact ((Chg.refl _ _).alloc _).alloc _)
    have HFIN := Lib.hid (fun (E : World) o at' ks p m' cp F hk hl hd hc hdn => SomeX.fin (n := m + 1) (c := 2 * m + 4) (a := a) (N := N) (rb := w.heap.size + 1) (E := E) HW1.out (Nat.le_succ _) hal o at' ks p m' cp F hk hl hd hc hdn)
    have HR := Lib.hid (fun (E : World) (hE : Chg [a] W1 E) => show (E.cell? ⟨w.heap.size + 1, 0, none⟩ = some (.int .i64 0) ∧ E.cell? ⟨w.heap.size + 1, 1, none⟩ = some (.string ⟨#[]⟩) ∧ E.cell? ⟨w.heap.size + 1, 2, none⟩ = some (.slice none 0 0)) ∧ E.frozen? ⟨w.heap.size + 1, 0, none⟩ = false ∧ E.frozen? ⟨w.heap.size + 1, 1, none⟩ = false ∧ E.frozen? ⟨w.heap.size + 1, 2, none⟩ = false from
      ⟨⟨hE.cellOf (by simp; omega) (by rw [eW1]; simp [go_sem]), hE.cellOf (by simp; omega) (by rw [eW1]; simp [go_sem]), hE.cellOf (by simp; omega) (by rw [eW1]; simp [go_sem])⟩, hE.frozenOf (by simp; omega) (by omega) (by rw [eW1]; simp [go_sem]), hE.frozenOf (by simp; omega) (by omega) (by rw [eW1]; simp [go_sem]), hE.frozenOf (by simp; omega) (by omega) (by rw [eW1]; simp [go_sem])⟩)
    have dW := h.chg HW1.out (by simp)
    rw [← eW1]
    clear eW1
    refine (CC.out W1 ((HW1.out.below (Nat.le_refl _) (by simp)).mono hB)).mono ?_
    rintro en u1 ⟨p1, c1, rfl, hci, su1, hb1⟩
    go_upto_region 2 with fail
    obtain ⟨W2, eW2⟩ : ∃ E, E = u1.alloc (.cells #[.int .i64 e.op, .string e.a, .slice p1 e.ks.list.length c1] 25) := ⟨_, rfl⟩
    have sW2 : u1.heap.size < W2.heap.size := by rw [eW2]; simp
    have kW2 : Chg [] u1 W2 := by rw [eW2]; exact (Chg.refl _ _).alloc _
    have HC2 := Lib.hid (((Chg.of_below hb1 [a]).trans (kW2.mono (by simp))) : Chg [a] W1 W2)
    have HO := Lib.hid (fun (E : World) (hE : Chg [a] W2 E) => show (E.cell? ⟨u1.heap.size, 0, none⟩ = some (.int .i64 e.op) ∧ E.cell? ⟨u1.heap.size, 1, none⟩ = some (.string e.a) ∧ E.cell? ⟨u1.heap.size, 2, none⟩ = some (.slice p1 e.ks.list.length c1)) ∧ E.frozen? ⟨u1.heap.size, 0, none⟩ = false ∧ E.frozen? ⟨u1.heap.size, 1, none⟩ = false ∧ E.frozen? ⟨u1.heap.size, 2, none⟩ = false from
      ⟨⟨hE.cellOf (by simp; omega) (by rw [eW2]; simp [go_sem]), hE.cellOf (by simp; omega) (by rw [eW2]; simp [go_sem]), hE.cellOf (by simp; omega) (by rw [eW2]; simp [go_sem])⟩, hE.frozenOf (by simp; omega) (by omega) (by rw [eW2]; simp [go_sem]), hE.frozenOf (by simp; omega) (by omega) (by rw [eW2]; simp [go_sem]), hE.frozenOf (by simp; omega) (by omega) (by rw [eW2]; simp [go_sem])⟩)
    obtain ⟨F0, ho0, hF0⟩ := hci.done
    have HF0 := Lib.hid (show (∀ z ∈ F0, W1.heap.size + 3 ≤ z ∧ z < u1.heap.size) ∧ ∀ E, Chg [a] W2 E → e.ks.Own E (.slice p1 e.ks.list.length c1) F0 from ⟨fun z hz => ⟨hF0 z hz, ho0.lt z hz⟩, fun E hE => (ho0.chg kW2 (by simp)).chg hE (fun z hz hm => by simp at hm; have := hF0 z hz; omega)⟩)
    have CI := Lib.hid (show ∃ (xs : List Sh) (Fs Fd : List Nat), ((∀ E, Chg [a] W2 E → OwnS 3 Sh.cells 25 E (.slice p1 e.ks.list.length c1) xs Fs) ∧ ∀ E, Chg [a] W2 E → Deep E e.ks xs Fd) ∧ (∀ v : Unit, u1.heap.size ∉ Fs ∧ w.heap.size + 1 ∉ Fs ∧ a ∉ Fs) ∧ (∀ x ∈ Fs, x ∉ Fd) ∧ (∀ x ∈ Fs, w.heap.size + 1 < x ∧ x < u1.heap.size) ∧ ∀ x ∈ Fd, w.heap.size + 1 < x ∧ x < u1.heap.size from by
      obtain ⟨xs, Fs, Fd, i1, i2, i3, i4, i5⟩ := hci.full
      have l1 := i1.lt
      have l2 := i2.lt
      exact ⟨xs, Fs, Fd, ⟨fun E hE => (i1.chg kW2 (by simp)).chg hE (fun z hz hm => by simp at hm; have := i3 z hz; omega), fun E hE => Deep.chg hE (Deep.chg kW2 i2 (by simp)) (fun z hz hm => by simp at hm; have := i4 z hz; omega)⟩,
        fun _ => ⟨fun hm => by have := l1 _ hm; omega, fun hm => by have := i3 _ hm; omega, fun hm => by have := i3 _ hm; omega⟩, i5, fun z hz => ⟨by have := i3 z hz; omega, l1 z hz⟩, fun z hz => ⟨by have := i4 z hz; omega, l2 z hz⟩⟩)
    have d2 : Dr W2 a N := (dW.below hb1).chg kW2 (by simp)
    have cW2 := Chg.refl [a] W2
    rw [← eW2]
    clear eW2 hci kW2 hb1 dW ho0 hF0
    have hal1 : a < u1.heap.size := by omega
    obtain ⟨⟨o0, o1, o2⟩, f0, f1, f2⟩ := HO.out _ cW2
    by_cases hn0 : 0 < e.ks.list.length
    · have qn : (0 < e.ks.list.length) = True := eq_true hn0
      go_wp2_with fail
      refine (pick_nat 2 a N _ d2 (by omega) (by decide)).mono ?_
      rintro en w3 ⟨q, rfl, hq, d3, k3⟩
      have c3 : Chg [a] W2 w3 := k3
      clear k3 o0 o1 o2 f0 f1 f2
      by_cases hq0 : 0 < q
      · have q1 : (0 < q) = True := eq_true hq0
        obtain ⟨⟨o0, o1, o2⟩, f0, f1, f2⟩ := HO.out _ c3
        go_wp2_with fail
        refine (pick_nat e.ks.list.length a (N + 1) _ d3 (by omega) hn0).mono ?_
        rintro en w4 ⟨j, rfl, hj, d4, k4⟩
        have c4 : Chg [a] W2 w4 := c3.trans k4
        clear k4 o0 o1 o2 f0 f1 f2 c3 d3
        obtain ⟨b, qk, mk, ck, rfl, hbF, hbl, hbz, _, _, y2, _⟩ := (HF0.out.2 w4 c4).kid hj
        have hbb := HF0.out.1 b hbF
        have HKID := Lib.hid (show ∀ E, Chg [a] w4 E → (E.cell? ⟨b, j * 3, none⟩ = some (.int .i64 e.ks.list[j].op) ∧ E.cell? ⟨b, j * 3 + 1, none⟩ = some (.string e.ks.list[j].a) ∧ E.cell? ⟨b, j * 3 + 2, none⟩ = some (.slice qk mk ck)) ∧ (∀ o, E.frozen? ⟨b, o, none⟩ = false) ∧ e.ks.list[j].ks.In E.heap.size E (.slice qk mk ck) from fun E hE => by
          obtain ⟨b', q', m', c', e1, _, _, z', g0, g1, g2, gin⟩ := (HF0.out.2 E (c4.trans hE)).kid hj
          cases e1
          have e2 := (hE.cellOf (by simp; omega) y2).symm.trans g2
          cases e2
          exact ⟨⟨g0, g1, g2⟩, z', gin⟩)
        have hkd := HD.out.2.1.get j hj
        have hks := e.ks.size_get j hj
        have hks2 := HD.out.2.2
        have HIH := Lib.hid (fun (E : World) (hE : Chg [a] w4 E) (hd : Dr E a (N + 1 + 1)) => IH.out e.ks.list[j].ks.size (by omega) e.ks.list[j] _ E.heap.size a (N + 1 + 1) E (HKID.out E hE).2.2 (Nat.le_refl _) hkd (by omega) hd (by omega))
        have HST := Lib.hid (fun (E : World) (hE : Chg [a] w4 E) (w3 : World) (y : Ex) (u : Value) (G : List Nat) (hy : y.ks.Own E u G) (hG : ∀ x ∈ G, x ∉ F0) hc c0 c1' c2 hoff hfz => (HF0.out.2 E (c4.trans hE)).store (k := j) (b := b) (w3 := w3) (y := y) (u := u) (G := G) hj hy hG hc c0 c1' c2 hoff hfz)
        obtain ⟨x0, ex0⟩ : ∃ x0, x0 = e.ks.list[j] := ⟨_, rfl⟩
        have HK := Lib.hid (show ∀ E, Chg [a] w4 E → E.cell? ⟨u1.heap.size, 2, none⟩ = some (.slice (some ⟨b, 0, none⟩) e.ks.list.length c1) ∧ E.cell? ⟨b, j * 3, none⟩ = some (.int .i64 x0.op) ∧ E.cell? ⟨b, j * 3 + 1, none⟩ = some (.string x0.a) ∧ E.cell? ⟨b, j * 3 + 2, none⟩ = some (.slice qk mk ck) from fun E hE => by
          rw [ex0]; exact ⟨(HO.out E (c4.trans hE)).1.2.2, (HKID.out E hE).1⟩)
        rw [← ex0] at hks HIH HST
        have HEX := Lib.hid ex0
        clear hkd y2 ex0
        go_upto_region 4 with fail
        refine wp_region_E (last := 11) (S := fun w' => w'.cell? ⟨u1.heap.size, 2, none⟩ = some (.slice (some ⟨b, 0, none⟩) e.ks.list.length c1) ∧ w'.cell? ⟨b, j * 3, none⟩ = some (.int .i64 x0.op) ∧ w'.cell? ⟨b, j * 3 + 1, none⟩ = some (.string x0.a) ∧ w'.cell? ⟨b, j * 3 + 2, none⟩ = some (.slice qk mk ck)) (by kernel_rfl) ?_ (fun hHeld => ?_)
        · exact HK.out _ (show Chg [a] w4 _ by ((repeat (first | with_reducible assumption | with_reducible exact Chg.refl _ _ | refine Chg.alloc ?_ _ | refine Chg.drew ?_)); first | done | fail "chg"))
        have cW : Chg [a] w4 w4.drew := Chg.drew (Chg.refl _ _)
        have dW : Dr w4.drew a (N + 1 + 1) := d4.drew
        generalize w4.drew = W0 at cW dW hHeld ⊢
        (refine takeE (i := 0) (v := ?_) [] rfl (by kernel_rfl) (by kernel_rfl) (fun _ _ _ h => h) (Or.inl ⟨by kernel_rfl, ?_⟩) (by assumption) ?_; rotate_left; (focus (intro w hSw; (try dsimp only at hSw); go_simp; first | done | with_reducible rfl | fail "takeE")); (try simp only [Act.put, List.setIfInBounds_toArray, List.set_cons_zero, List.set_cons_succ]))
        (refine takeE (i := 1) (v := ?_) [] rfl (by kernel_rfl) (by kernel_rfl) (fun _ _ _ h => h) (Or.inl ⟨by kernel_rfl, ?_⟩) (by assumption) ?_; rotate_left; (focus (intro w hSw; (try dsimp only at hSw); go_simp; first | done | with_reducible rfl | fail "takeE")); (try simp only [Act.put, List.setIfInBounds_toArray, List.set_cons_zero, List.set_cons_succ]))
        (refine takeE (i := 2) (v := ?_) [] rfl (by kernel_rfl) (by kernel_rfl) (fun _ _ _ h => h) (Or.inl ⟨by kernel_rfl, ?_⟩) (by assumption) ?_; rotate_left; (focus (intro w hSw; (try dsimp only at hSw); go_simp; first | done | with_reducible rfl | fail "takeE")); (try simp only [Act.put, List.setIfInBounds_toArray, List.set_cons_zero, List.set_cons_succ]))
        (refine takeE (i := 3) (v := ?_) [] rfl (by kernel_rfl) (by kernel_rfl) (fun _ _ _ h => h) (Or.inl ⟨by kernel_rfl, ?_⟩) (by assumption) ?_; rotate_left; (focus (intro w hSw; (try dsimp only at hSw); go_simp; first | done | with_reducible rfl | fail "takeE")); (try simp only [Act.put, List.setIfInBounds_toArray, List.set_cons_zero, List.set_cons_succ]))
        (refine takeE (i := 4) (v := ?_) [] rfl (by kernel_rfl) (by kernel_rfl) (fun _ _ _ h => h) (Or.inl ⟨by kernel_rfl, ?_⟩) (by assumption) ?_; rotate_left; (focus (intro w hSw; (try dsimp only at hSw); go_simp; first | done | with_reducible rfl | fail "takeE")); (try simp only [Act.put, List.setIfInBounds_toArray, List.set_cons_zero, List.set_cons_succ]))
        (refine takeE (i := 5) (v := ?_) [] rfl (by kernel_rfl) (by kernel_rfl) (fun _ _ _ h => h) (Or.inl ⟨by kernel_rfl, ?_⟩) (by assumption) ?_; rotate_left; (focus (intro w hSw; (try dsimp only at hSw); go_simp; first | done | with_reducible rfl | fail "takeE")); (try simp only [Act.put, List.setIfInBounds_toArray, List.set_cons_zero, List.set_cons_succ]))
        (refine takeE (i := 6) (v := ?_) [] rfl (by kernel_rfl) (by kernel_rfl) (fun _ _ _ h => h) (Or.inl ⟨by kernel_rfl, ?_⟩) (by assumption) ?_; rotate_left; (focus (intro w hSw; (try dsimp only at hSw); go_simp; first | done | with_reducible rfl | fail "takeE")); (try simp only [Act.put, List.setIfInBounds_toArray, List.set_cons_zero, List.set_cons_succ]))
        (refine takeE (i := 7) (v := ?_) [] rfl (by kernel_rfl) (by kernel_rfl) (fun _ _ _ h => h) (Or.inl ⟨by kernel_rfl, ?_⟩) (by assumption) ?_; rotate_left; (focus (intro w hSw; (try dsimp only at hSw); go_simp; first | done | with_reducible rfl | fail "takeE")); (try simp only [Act.put, List.setIfInBounds_toArray, List.set_cons_zero, List.set_cons_succ]))
        (refine takeE (i := 8) (v := ?_) [] rfl (by kernel_rfl) (by kernel_rfl) (fun _ _ _ h => h) (Or.inl ⟨by kernel_rfl, ?_⟩) (by assumption) ?_; rotate_left; (focus (intro w hSw; (try dsimp only at hSw); go_simp; first | done | with_reducible rfl | fail "takeE")); (try simp only [Act.put, List.setIfInBounds_toArray, List.set_cons_zero, List.set_cons_succ]))
        refine oneE (i := 9) rfl (by kernel_rfl) (by kernel_rfl) (fun K hK => ?_)
        go_simp
        go_at_call 57
        refine Calls.mono (HIH.out _ cW dW) ?_
        rintro en U ⟨x, px, cx, G, rfl, ⟨hx, hxl, hxd⟩, dU, kU⟩
        have cU : Chg [a] w4 U := cW.trans kU
        have sU := cW.size
        go_wp2_with fail
        refine hK.out _ _ (HK.out _ cU) (fun hHeld => ?_)
        clear hK K
        (try simp only [Act.put, List.setIfInBounds_toArray, List.set_cons_zero, List.set_cons_succ])
        (refine takeE (i := 10) (v := ?_) [] rfl (by kernel_rfl) (by kernel_rfl) (fun _ _ _ h => h) (Or.inl ⟨by kernel_rfl, ?_⟩) (by assumption) ?_; rotate_left; (focus (intro w hSw; (try dsimp only at hSw); go_simp; first | done | with_reducible rfl | fail "takeE")); (try simp only [Act.put, List.setIfInBounds_toArray, List.set_cons_zero, List.set_cons_succ]))
        have hk4 := HKID.out _ cU
        rw [← HEX.out] at hk4
        obtain ⟨⟨k0, k1, k2⟩, kz, _⟩ := hk4
        have kz0 := kz (j * 3)
        have kz1 := kz (j * 3 + 1)
        have kz2 := kz (j * 3 + 2)
        refine lastE rfl (by kernel_rfl) (by kernel_rfl) (fun K hK => ?_)
        go_simp
        refine hK.out _ _ ?_
        clear hK K kz0 kz1 kz2
        refine doneE (by kernel_rfl) ?_ _
        obtain ⟨sc, s0, s1, s2, soff, sfz⟩ := store3 (y0 := .int .i64 x.op) (y1 := .string x.a) (y2 := .slice px x.ks.list.length cx) k0 k1 k2 kz
        have s4 := c4.size
        have hu5 := hx.lt
        obtain ⟨f', F', hf1, hf2, hf3, hf4, hf5⟩ := HST.out U cU _ x _ G hx (fun y hy hm => by have := hxl y hy; have := HF0.out.1 y hm; omega) sc s0 s1 s2 soff sfz
        generalize ((U.setCell ⟨b, j * 3, none⟩ (.int .i64 x.op)).setCell ⟨b, j * 3 + 1, none⟩ (.string x.a)).setCell ⟨b, j * 3 + 2, none⟩ (.slice px x.ks.list.length cx) = E at sc hf1 ⊢
        have hba : b ≠ u1.heap.size := by omega
        obtain ⟨⟨o0', o1', o2'⟩, f0', f1', f2'⟩ := HO.out _ (c4.trans cU)
        have o0 := sc.cellOf (by simp; omega) o0'
        have o1 := sc.cellOf (by simp; omega) o1'
        have o2 := sc.cellOf (by simp; omega) o2'
        have cE := ((HC2.out.trans c4).trans cU).past sc (by simp; omega)
        obtain ⟨⟨r0, r1, r2⟩, g0, g1, g2⟩ := HR.out _ cE
        have HH := Lib.hid (HFIN.out E e.op e.a f' (some ⟨b, 0, none⟩) e.ks.list.length c1 F' hf1 (fun y hy => by
          rcases hf2 y hy with hy | hy
          · have := HF0.out.1 y hy; omega
          · have := hxl y hy; omega) ((dU.chg sc (by simp; omega)).mono (by omega)) cE ⟨HD.out.1, hf4 HD.out.2.1 ⟨hxd.1, hxd.2.1, Nat.le_refl _⟩, by have := hxd.2.2; simp only at *; omega⟩)
        clear hf1 hf2 hf3 hf4 hf5 sc cE dU kU cU hx hxl hxd o0' o1' o2' f0' f1' f2' s0 s1 s2 soff sfz k0 k1 k2 kz hHeld
        go_wp2_with fail
        exact bodyPost_ret (v := .agg #[.int .i64 e.op, .string e.a, .slice (some ⟨b, 0, none⟩) e.ks.list.length c1]) (by simp [results, Tryd.results57, go_sem, *]) rfl HH.out
      · have q1 : (0 < q) = False := eq_false hq0
        obtain ⟨⟨o0, o1, o2⟩, f0, f1, f2⟩ := HO.out _ c3
        go_wp2_with fail
        refine (pick_nat 12 a (N + 1) _ d3 (by omega) (by decide)).mono ?_
        rintro en w6 ⟨t, rfl, ht, d6, k6⟩
        have c6 : Chg [a] W2 w6 := c3.trans k6
        clear k6
        have s6 := c6.size
        have a6 := d6.lt
        obtain ⟨⟨o0, o1, o2⟩, f0, f1, f2⟩ := HO.out _ c6
        rcases (by omega : t = 0 ∨ t = 1 ∨ t = 2 ∨ 3 ≤ t) with rfl | rfl | rfl | ht3
        · have q20 : ((0 : Int) == 0) = true := by decide
          go_wp2_with fail
          refine (num_rng (-1000) 1000 a (N + 1 + 1) _ 4 _ _ (d6.alloc _) (by omega) (Cs.fresh (rngB (-1000) 1000) (rngB_spec _ _) _ _ _ rfl (by rfl) (by kernel_rfl)) (by decide) (by omega)).mono ?_
          rintro en w7 ⟨z, rfl, hz, d7, k7⟩
          have c7 : Chg [a] W2 w7 := (c6.alloc _).trans k7
          have s7 := c7.size
          obtain ⟨⟨o0, o1, o2⟩, f0, f1, f2⟩ := HO.out _ c7
          have kx : Chg [u1.heap.size] w7 (w7.setCell ⟨u1.heap.size, 0, none⟩ (.int .i64 z)) := (Chg.refl _ _).setCell (by simp) _
          obtain ⟨⟨r0, r1, r2⟩, g0, g1, g2⟩ := HR.out _ ((HC2.out.trans c7).past kx (by simp; omega))
          have HH := Lib.hid (HFIN.out (w7.setCell ⟨u1.heap.size, 0, none⟩ (.int .i64 z)) z e.a e.ks p1 e.ks.list.length c1 F0 ((HF0.out.2 _ c7).chg kx (fun y hy => by have := HF0.out.1 y hy; simp; omega)) (fun y hy => by have := HF0.out.1 y hy; omega) ((d7.chg kx (by simp; omega)).mono (by omega)) ((HC2.out.trans c7).past kx (by simp; omega)) ⟨⟨hz.1, hz.2, HD.out.1.2.2⟩, HD.out.2.1, Nat.le_succ_of_le HD.out.2.2⟩)
          clear d6 c6 d7 c7 k7
          go_wp2_with fail
          exact bodyPost_ret (v := .agg #[.int .i64 z, .string e.a, .slice p1 e.ks.list.length c1]) (by simp [results, Tryd.results57, go_sem, *]) rfl HH.out
        · have q20 : ((1 : Int) == 0) = false := by decide
          go_wp2_with fail
          refine (of_dr a (N + 1 + 1) _ 6 _ _ (d6.alloc _) (by omega) (Cs.fresh strB strB_spec _ _ _ rfl (by rfl) (by kernel_rfl)) (by decide) (by omega)).mono ?_
          rintro en w7 ⟨z, rfl, hz, d7, k7⟩
          have c7 : Chg [a] W2 w7 := (c6.alloc _).trans k7
          have s7 := c7.size
          obtain ⟨⟨o0, o1, o2⟩, f0, f1, f2⟩ := HO.out _ c7
          have kx : Chg [u1.heap.size] w7 (w7.setCell ⟨u1.heap.size, 1, none⟩ (.string z)) := (Chg.refl _ _).setCell (by simp) _
          obtain ⟨⟨r0, r1, r2⟩, g0, g1, g2⟩ := HR.out _ ((HC2.out.trans c7).past kx (by simp; omega))
          have HH := Lib.hid (HFIN.out (w7.setCell ⟨u1.heap.size, 1, none⟩ (.string z)) e.op z e.ks p1 e.ks.list.length c1 F0 ((HF0.out.2 _ c7).chg kx (fun y hy => by have := HF0.out.1 y hy; simp; omega)) (fun y hy => by have := HF0.out.1 y hy; omega) ((d7.chg kx (by simp; omega)).mono (by omega)) ((HC2.out.trans c7).past kx (by simp; omega)) ⟨⟨HD.out.1.1, HD.out.1.2.1, hz⟩, HD.out.2.1, Nat.le_succ_of_le HD.out.2.2⟩)
          clear d6 c6 d7 c7 k7
          go_wp2_with fail
          exact bodyPost_ret (v := .agg #[.int .i64 e.op, .string z, .slice p1 e.ks.list.length c1]) (by simp [results, Tryd.results57, go_sem, *]) rfl HH.out
        · have q20 : ((2 : Int) == 0) = false := by decide
          have q21 : ((2 : Int) == 1) = false := by decide
          obtain ⟨xs, Fs, Fd, hxs⟩ := CI.out
          have HXS := Lib.hid hxs
          have HA := Lib.hid (app_kid (hxs.1.1 w6 c6) (hxs.1.2 w6 c6) hxs.2.2.1 hln)
          clear hxs
          go_wp2_with (at_builtin; refine wpApp rfl (.tmp 52) (.tmp 54) 23 rfl _ _ rfl rfl _ HA.out ?_; rintro v7 w7 ⟨p7, c7, F7, rfl, ho7, hf7, k7⟩; have n0 := k7.cellOf (HXS.out.2.1 ()).1 o0; have n1 := k7.cellOf (HXS.out.2.1 ()).1 o1; have n2 := k7.cellOf (HXS.out.2.1 ()).1 o2; have z2 := k7.frozenOf (HXS.out.2.1 ()).1 (by omega) f2; have hl7 : u1.heap.size < w7.heap.size := (by have := k7.size; omega); have e7 : Chg [a] W1 w7 := (HC2.out.trans c6).past k7 (fun x hx => .inr (by have := HXS.out.2.2.2.1 x hx; omega)); obtain ⟨⟨r0, r1, r2⟩, g0, g1, g2⟩ := HR.out _ e7; have d7 := d6.chg k7 (fun x hx => by have := HXS.out.2.2.2.1 x hx; omega); have HE7 := Lib.hid e7; have HD7 := Lib.hid d7; have HO7 := Lib.hid ho7; have HF7 := Lib.hid hf7; clear k7 ho7 hf7 e7 d7)
          have kx : Chg [u1.heap.size] w7 (w7.setCell ⟨u1.heap.size, 2, none⟩ (.slice p7 (e.ks.list.length + 1) c7)) := (Chg.refl _ _).setCell (by simp) _
          have HH := HFIN.out (w7.setCell ⟨u1.heap.size, 2, none⟩ (.slice p7 (e.ks.list.length + 1) c7)) e.op e.a (e.ks.app (.cons 2 ⟨#[]⟩ .nil .nil)) p7 (e.ks.list.length + 1) c7 F7 (HO7.out.chg kx (fun y hy => by
            rcases HF7.out y hy with h | h | h
            · have := HXS.out.2.2.2.1 y h; simp; omega
            · have := HXS.out.2.2.2.2 y h; simp; omega
            · simp; omega)) (fun y hy => by
            rcases HF7.out y hy with h | h | h
            · exact (HXS.out.2.2.2.1 y h).1
            · exact (HXS.out.2.2.2.2 y h).1
            · omega) ((HD7.out.chg kx (by simp; omega)).mono (by omega)) (HE7.out.past kx (by simp; omega)) ⟨HD.out.1, Fo.dn_app.2 ⟨HD.out.2.1, (by decide), trivial, trivial⟩, by rw [Fo.size_app]; exact Nat.succ_le_succ HD.out.2.2⟩
          exact bodyPost_ret (v := .agg #[.int .i64 e.op, .string e.a, .slice p7 (e.ks.list.length + 1) c7]) (by simp [results, Tryd.results57, go_sem, *]) rfl HH
        · have q20 : ((t : Int) == 0) = false := beq_eq_false_iff_ne.2 (by omega)
          have q21 : ((t : Int) == 1) = false := beq_eq_false_iff_ne.2 (by omega)
          have q22 : ((t : Int) == 2) = false := beq_eq_false_iff_ne.2 (by omega)
          obtain ⟨⟨r0, r1, r2⟩, g0, g1, g2⟩ := HR.out _ (HC2.out.trans c6)
          have HH := Lib.hid (HFIN.out w6 e.op e.a e.ks p1 e.ks.list.length c1 F0 (HF0.out.2 _ c6) (fun y hy => by have := HF0.out.1 y hy; omega) (d6.mono (by omega)) (HC2.out.trans c6) ⟨HD.out.1, HD.out.2.1, Nat.le_succ_of_le HD.out.2.2⟩)
          clear d6 c6
          go_wp2_with fail
          exact bodyPost_ret (v := .agg #[.int .i64 e.op, .string e.a, .slice p1 e.ks.list.length c1]) (by simp [results, Tryd.results57, go_sem, *]) rfl HH.out
    · have qn : (0 < e.ks.list.length) = False := eq_false hn0
      go_wp2_with fail
      refine (pick_nat 12 a (N) _ d2 (by omega) (by decide)).mono ?_
      rintro en w6 ⟨t, rfl, ht, d6, k6⟩
      have c6 : Chg [a] W2 w6 := cW2.trans k6
      clear k6
      have s6 := c6.size
      have a6 := d6.lt
      obtain ⟨⟨o0, o1, o2⟩, f0, f1, f2⟩ := HO.out _ c6
      rcases (by omega : t = 0 ∨ t = 1 ∨ t = 2 ∨ 3 ≤ t) with rfl | rfl | rfl | ht3
      · have q20 : ((0 : Int) == 0) = true := by decide
        go_wp2_with fail
        refine (num_rng (-1000) 1000 a (N + 1) _ 4 _ _ (d6.alloc _) (by omega) (Cs.fresh (rngB (-1000) 1000) (rngB_spec _ _) _ _ _ rfl (by rfl) (by kernel_rfl)) (by decide) (by omega)).mono ?_
        rintro en w7 ⟨z, rfl, hz, d7, k7⟩
        have c7 : Chg [a] W2 w7 := (c6.alloc _).trans k7
        have s7 := c7.size
        obtain ⟨⟨o0, o1, o2⟩, f0, f1, f2⟩ := HO.out _ c7
        have kx : Chg [u1.heap.size] w7 (w7.setCell ⟨u1.heap.size, 0, none⟩ (.int .i64 z)) := (Chg.refl _ _).setCell (by simp) _
        obtain ⟨⟨r0, r1, r2⟩, g0, g1, g2⟩ := HR.out _ ((HC2.out.trans c7).past kx (by simp; omega))
        have HH := Lib.hid (HFIN.out (w7.setCell ⟨u1.heap.size, 0, none⟩ (.int .i64 z)) z e.a e.ks p1 e.ks.list.length c1 F0 ((HF0.out.2 _ c7).chg kx (fun y hy => by have := HF0.out.1 y hy; simp; omega)) (fun y hy => by have := HF0.out.1 y hy; omega) ((d7.chg kx (by simp; omega)).mono (by omega)) ((HC2.out.trans c7).past kx (by simp; omega)) ⟨⟨hz.1, hz.2, HD.out.1.2.2⟩, HD.out.2.1, Nat.le_succ_of_le HD.out.2.2⟩)
        clear d6 c6 d7 c7 k7
        go_wp2_with fail
        exact bodyPost_ret (v := .agg #[.int .i64 z, .string e.a, .slice p1 e.ks.list.length c1]) (by simp [results, Tryd.results57, go_sem, *]) rfl HH.out
      · have q20 : ((1 : Int) == 0) = false := by decide
        go_wp2_with fail
        refine (of_dr a (N + 1) _ 6 _ _ (d6.alloc _) (by omega) (Cs.fresh strB strB_spec _ _ _ rfl (by rfl) (by kernel_rfl)) (by decide) (by omega)).mono ?_
        rintro en w7 ⟨z, rfl, hz, d7, k7⟩
        have c7 : Chg [a] W2 w7 := (c6.alloc _).trans k7
        have s7 := c7.size
        obtain ⟨⟨o0, o1, o2⟩, f0, f1, f2⟩ := HO.out _ c7
        have kx : Chg [u1.heap.size] w7 (w7.setCell ⟨u1.heap.size, 1, none⟩ (.string z)) := (Chg.refl _ _).setCell (by simp) _
        obtain ⟨⟨r0, r1, r2⟩, g0, g1, g2⟩ := HR.out _ ((HC2.out.trans c7).past kx (by simp; omega))
        have HH := Lib.hid (HFIN.out (w7.setCell ⟨u1.heap.size, 1, none⟩ (.string z)) e.op z e.ks p1 e.ks.list.length c1 F0 ((HF0.out.2 _ c7).chg kx (fun y hy => by have := HF0.out.1 y hy; simp; omega)) (fun y hy => by have := HF0.out.1 y hy; omega) ((d7.chg kx (by simp; omega)).mono (by omega)) ((HC2.out.trans c7).past kx (by simp; omega)) ⟨⟨HD.out.1.1, HD.out.1.2.1, hz⟩, HD.out.2.1, Nat.le_succ_of_le HD.out.2.2⟩)
        clear d6 c6 d7 c7 k7
        go_wp2_with fail
        exact bodyPost_ret (v := .agg #[.int .i64 e.op, .string z, .slice p1 e.ks.list.length c1]) (by simp [results, Tryd.results57, go_sem, *]) rfl HH.out
      · have q20 : ((2 : Int) == 0) = false := by decide
        have q21 : ((2 : Int) == 1) = false := by decide
        obtain ⟨xs, Fs, Fd, hxs⟩ := CI.out
        have HXS := Lib.hid hxs
        have HA := Lib.hid (app_kid (hxs.1.1 w6 c6) (hxs.1.2 w6 c6) hxs.2.2.1 hln)
        clear hxs
        go_wp2_with (at_builtin; refine wpApp rfl (.tmp 52) (.tmp 54) 23 rfl _ _ rfl rfl _ HA.out ?_; rintro v7 w7 ⟨p7, c7, F7, rfl, ho7, hf7, k7⟩; have n0 := k7.cellOf (HXS.out.2.1 ()).1 o0; have n1 := k7.cellOf (HXS.out.2.1 ()).1 o1; have n2 := k7.cellOf (HXS.out.2.1 ()).1 o2; have z2 := k7.frozenOf (HXS.out.2.1 ()).1 (by omega) f2; have hl7 : u1.heap.size < w7.heap.size := (by have := k7.size; omega); have e7 : Chg [a] W1 w7 := (HC2.out.trans c6).past k7 (fun x hx => .inr (by have := HXS.out.2.2.2.1 x hx; omega)); obtain ⟨⟨r0, r1, r2⟩, g0, g1, g2⟩ := HR.out _ e7; have d7 := d6.chg k7 (fun x hx => by have := HXS.out.2.2.2.1 x hx; omega); have HE7 := Lib.hid e7; have HD7 := Lib.hid d7; have HO7 := Lib.hid ho7; have HF7 := Lib.hid hf7; clear k7 ho7 hf7 e7 d7)
        have kx : Chg [u1.heap.size] w7 (w7.setCell ⟨u1.heap.size, 2, none⟩ (.slice p7 (e.ks.list.length + 1) c7)) := (Chg.refl _ _).setCell (by simp) _
        have HH := HFIN.out (w7.setCell ⟨u1.heap.size, 2, none⟩ (.slice p7 (e.ks.list.length + 1) c7)) e.op e.a (e.ks.app (.cons 2 ⟨#[]⟩ .nil .nil)) p7 (e.ks.list.length + 1) c7 F7 (HO7.out.chg kx (fun y hy => by
          rcases HF7.out y hy with h | h | h
          · have := HXS.out.2.2.2.1 y h; simp; omega
          · have := HXS.out.2.2.2.2 y h; simp; omega
          · simp; omega)) (fun y hy => by
          rcases HF7.out y hy with h | h | h
          · exact (HXS.out.2.2.2.1 y h).1
          · exact (HXS.out.2.2.2.2 y h).1
          · omega) ((HD7.out.chg kx (by simp; omega)).mono (by omega)) (HE7.out.past kx (by simp; omega)) ⟨HD.out.1, Fo.dn_app.2 ⟨HD.out.2.1, (by decide), trivial, trivial⟩, by rw [Fo.size_app]; exact Nat.succ_le_succ HD.out.2.2⟩
        exact bodyPost_ret (v := .agg #[.int .i64 e.op, .string e.a, .slice p7 (e.ks.list.length + 1) c7]) (by simp [results, Tryd.results57, go_sem, *]) rfl HH
      · have q20 : ((t : Int) == 0) = false := beq_eq_false_iff_ne.2 (by omega)
        have q21 : ((t : Int) == 1) = false := beq_eq_false_iff_ne.2 (by omega)
        have q22 : ((t : Int) == 2) = false := beq_eq_false_iff_ne.2 (by omega)
        obtain ⟨⟨r0, r1, r2⟩, g0, g1, g2⟩ := HR.out _ (HC2.out.trans c6)
        have HH := Lib.hid (HFIN.out w6 e.op e.a e.ks p1 e.ks.list.length c1 F0 (HF0.out.2 _ c6) (fun y hy => by have := HF0.out.1 y hy; omega) (d6.mono (by omega)) (HC2.out.trans c6) ⟨HD.out.1, HD.out.2.1, Nat.le_succ_of_le HD.out.2.2⟩)
        clear d6 c6
        go_wp2_with fail
        exact bodyPost_ret (v := .agg #[.int .i64 e.op, .string e.a, .slice p1 e.ks.list.length c1]) (by simp [results, Tryd.results57, go_sem, *]) rfl HH.out
end Go.Proofs.YtbbemeaojmfndaaDoor
