/- spec.AddNode, spec.AddEdge. -/
import Derived.Test.YtchhobphockhhaaAdd
import Derived.Test.YtchhobphockhhaaSGValid
import Derived.Test.YtchhobphockhhaaCopy
namespace Go.Proofs.Ytchhobphockhhaa
open Go.RowKit

/-- An append, by whatever its run is known to give. -/
theorem wpList_append_run {P : Program} {w : World} {ops : Array Oper} {rest : List Oper} {o : Oper} {a : Act} {Q : Exit → Act → World → Prop} (hgd : o.guard = none) (s x : Operand) (t : TypeId)
    (ho : o.op = .call { callee := .builtin .append, args := #[s, x], argTypes := #[t, t] }) (vs vx : Value) (hs : a.eval s = vs) (hx : a.eval x = vx) (R : Value → World → Prop)
    (hr : ∃ v' w', (Builtin.append_ #[t, t] o.type #[vs, vx]).run P w = .ok v' w' ∧ R v' w') (h : ∀ v' w', R v' w' → wpList P ops Q rest (a.put o.dst v') w') : wpList P ops Q (o :: rest) a w := by
  refine wpList_plain hgd fun K hK => ?_
  obtain ⟨v', w', hr, hR⟩ := hr
  unfold Oper.wp execOp
  simp only [ho, resolve, invoke, builtin, Sem.run_bind, Sem.run_pure, Result.andThen_ok, List.map_toArray, List.map_cons, List.map_nil, hs, hx, hr]
  exact hK _ _ (h v' w' hR)
theorem chgc {F : List Nat} {w w' : World} {b o : Nat} {x : Value} (hc : Chg F w w') (hb : b ∉ F) (h : w.cell? ⟨b, o, none⟩ = some x) : w'.cell? ⟨b, o, none⟩ = some x :=
  (World.cell?_of_block (w := w) (a := ⟨b, o, none⟩) (hc.block b (World.block_lt_of_cell? w _ h) hb)).trans h
theorem chgf {F : List Nat} {w w' : World} {b o : Nat} (hc : Chg F w w') (hlt : b < w.heap.size) (hb : b ∉ F) (h : w.frozen? ⟨b, o, none⟩ = false) : w'.frozen? ⟨b, o, none⟩ = false :=
  (World.frozen?_of_block (w := w) (a := ⟨b, o, none⟩) (hc.block b hlt hb)).trans h

set_option maxRecDepth 100000 in
set_option maxHeartbeats 4000000 in
theorem specAddNode_any (g : Gr) (v : Value) (x : Nd) (B : Nat) (w : World) (hg : g.At B w v) (hB : B ≤ w.heap.size) (hok : g.Ok) (hx : x.Ok) (h1 : g.ns.length ≤ 2000000) (h2 : g.es.length ≤ 2000000) :
    Calls Try.prog 46 #[v, .agg #[.string x.l, .int .i64 x.n]] w fun e w' => ∃ v' F1 F2, e = .returned (.tuple #[v', .bool (extOk g [x] [])]) ∧ (extR g [x] []).Own w.heap.size w' v' F1 F2 ∧ Below w.heap.size w w' := by
  have HG := Lib.hid hg
  have HX := Lib.hid hx
  clear hx
  obtain ⟨a, b, rfl, ha, hb⟩ := hg
  obtain ⟨pa, ca, rfl⟩ := ha.form
  obtain ⟨p, cap, rfl⟩ := hb.form
  clear ha hb
  have HM := Lib.hid (more_ok (xs := [x]) (ys := []) hok (by simpa using HX.out) (by simp))
  obtain ⟨i1, hi1, hz1, hsz1, hby1⟩ := info_parts infoNode
  have HI := Lib.hid (And.intro hi1 (And.intro hz1 (And.intro hsz1 hby1)))
  clear hi1 hz1 hsz1 hby1
  go_enter Try.func46, Try.ntmps46
  go_wp2_with fail
  have HV := Lib.hid (((((Below.refl w.heap.size w).alloc (by simp) (.cells #[.slice pa g.ns.length ca, .slice p g.es.length cap] 55)).alloc (by simp) (.cells #[.string x.l, .int .i64 x.n] 64)).alloc (by simp <;> omega) (.cells #[.slice none 0 0, .slice none 0 0] 55)))
  have HK := Lib.hid (show ∀ wk, Below (w.heap.size + 3) (((w.alloc (.cells #[.slice pa g.ns.length ca, .slice p g.es.length cap] 55)).alloc (.cells #[.string x.l, .int .i64 x.n] 64)).alloc (.cells #[.slice none 0 0, .slice none 0 0] 55)) wk → w.heap.size + 3 ≤ wk.heap.size ∧ wk.cell? ⟨w.heap.size, 0, none⟩ = some (.slice pa g.ns.length ca) ∧ wk.cell? ⟨w.heap.size, 1, none⟩ = some (.slice p g.es.length cap) ∧ wk.cell? ⟨w.heap.size + 1, 0, none⟩ = some (.string x.l) ∧ wk.cell? ⟨w.heap.size + 1, 1, none⟩ = some (.int .i64 x.n) ∧ wk.cell? ⟨w.heap.size + 2, 0, none⟩ = some (.slice none 0 0) ∧ wk.cell? ⟨w.heap.size + 2, 1, none⟩ = some (.slice none 0 0) ∧ wk.frozen? ⟨w.heap.size + 2, 0, none⟩ = false ∧ wk.frozen? ⟨w.heap.size + 2, 1, none⟩ = false from
    fun wk hk => ⟨by have := hk.size; simp at this; omega, keepc hk (by omega) (by simp [go_sem]), keepc hk (by omega) (by simp [go_sem]), keepc hk (by omega) (by simp [go_sem]), keepc hk (by omega) (by simp [go_sem]), keepc hk (by omega) (by simp [go_sem]), keepc hk (by omega) (by simp [go_sem]), keepf hk (by omega) (by simp [go_sem]), keepf hk (by omega) (by simp [go_sem])⟩)
  have HA0 := Lib.hid (Below.refl (w.heap.size + 3) (((w.alloc (.cells #[.slice pa g.ns.length ca, .slice p g.es.length cap] 55)).alloc (.cells #[.string x.l, .int .i64 x.n] 64)).alloc (.cells #[.slice none 0 0, .slice none 0 0] 55)))
  refine (l1CopyB_any g _ B _ (HG.out.below (HV.out.mono hB)) (by simp; omega) (by omega) (by omega)).mono ?_
  rintro e w1 ⟨v1, F1, F2, rfl, ho1, hb1⟩
  have HA1 := Lib.hid (HA0.out.trans (hb1.mono (by simp)))
  have LO := Lib.hid (show (∀ x ∈ F1 ++ F2, w.heap.size + 3 ≤ x ∧ x < w1.heap.size) by
    have hl := ho1.own.lt
    obtain ⟨_, _, _, _, _, l1, l2, _⟩ := ho1
    intro x hx
    rcases List.mem_append.1 hx with hx | hx
    · have := l1 x hx; have := hl.1 x hx; simp at *; omega
    · have := l2 x hx; have := hl.2 x hx; simp at *; omega)
  obtain ⟨x1, x2, rfl, hn, he, l1, l2, ld⟩ := ho1
  have LD := Lib.hid ld
  have HN := Lib.hid hn
  have HE := Lib.hid he
  obtain ⟨pn, cn, rfl⟩ := (hn.own (enc := Nd.cells) (fun _ => rfl)).sl.form
  obtain ⟨pe, ce, rfl⟩ := (he.own (enc := Ed.cells) (fun _ => rfl)).sl.form
  clear hb1 hn he l1 l2 ld
  obtain ⟨hs1, c0, c1, n0, n1, z0, z1, f0, f1⟩ := HK.out w1 HA1.out
  have t01 : w.heap.size < w1.heap.size := by omega
  have t02 : w.heap.size + 1 < w1.heap.size := by omega
  have t03 : w.heap.size + 1 + 1 < w1.heap.size := by omega
  obtain ⟨W, eW⟩ : ∃ W, W = (w1.alloc (.cells #[.slice pn g.ns.length cn, .slice pe g.es.length ce] 55)).alloc (.cells #[.string x.l, .int .i64 x.n] 64) := ⟨_, rfl⟩
  have hBW : Below w1.heap.size w1 W := by rw [eW]; exact ((Below.refl _ _).alloc (Nat.le_refl _) _).alloc (by simp) _
  have hWs : W.heap.size = w1.heap.size + 2 := by rw [eW]; simp
  have hWn : ∀ j u, (Nd.cells x)[j]? = some u → W.cell? ⟨w1.heap.size + 1, j, none⟩ = some u := fun j u hu => by rw [eW]; exact cell_new (l := x.cells) (by simp) j u hu
  have k0 : W.cell? ⟨w1.heap.size, 0, none⟩ = some (.slice pn g.ns.length cn) := by rw [eW]; simp [go_sem]
  have k1 : W.cell? ⟨w1.heap.size, 1, none⟩ = some (.slice pe g.es.length ce) := by rw [eW]; simp [go_sem]
  have k2 : W.frozen? ⟨w1.heap.size, 0, none⟩ = false := by rw [eW]; simp [go_sem]
  have k3 : W.frozen? ⟨w1.heap.size, 1, none⟩ = false := by rw [eW]; simp [go_sem]
  have hap := OwnB.append (enc := Nd.cells) (sz := 2) (fun _ => rfl) (fun x u hu => flat_oneNode [x] u (by simpa [flat] using hu)) 52 52 64 i1 _ 24 Try.underlying52 HI.out.1 HI.out.2.1 HI.out.2.2.1 HI.out.2.2.2 (by decide) (HN.out.below hBW) x (w1.heap.size + 1) 1 hWn (by omega) (by omega)
  have HAP := Lib.hid hap
  have HBW := Lib.hid hBW
  have HWC := Lib.hid (And.intro k0 (And.intro k1 (And.intro k2 k3)))
  clear hap hBW hWn k0 k1 k2 k3
  rw [eW] at HAP
  have EW := Lib.hid eW
  clear eW
  go_wp2_with (at_builtin; refine wpList_append_run rfl (.tmp 10) (.tmp 12) 52 rfl _ _ rfl rfl _ HAP.out ?_; rintro v2 w2 ⟨F', hr⟩; rw [← EW.out] at hr; obtain ⟨p2, c2, rfl⟩ := ((hr.1.own (enc := Nd.cells) (fun _ => rfl)).sl.form); have HR := Lib.hid hr; have hs2 := hr.2.2.size; obtain ⟨y0, y1, y2, y3⟩ := HWC.out; have q0 := chgc hr.2.2 (fun hx => by have := LO.out _ (List.mem_append_left _ hx); omega) y0; have q1 := chgc hr.2.2 (fun hx => by have := LO.out _ (List.mem_append_left _ hx); omega) y1; have q2 := chgf hr.2.2 (by omega) (fun hx => by have := LO.out _ (List.mem_append_left _ hx); omega) y2; have q3 := chgf hr.2.2 (by omega) (fun hx => by have := LO.out _ (List.mem_append_left _ hx); omega) y3; clear hr y0 y1 y2 y3 c0 c1 z0 z1 f0 f1 n0 n1; have HA2 := Lib.hid (HA1.out.trans ((HBW.out.mono (by omega)).trans (HR.out.2.2.below (by omega) (fun y hy => (LO.out y (List.mem_append_left _ hy)).1)))); obtain ⟨hs2', c0, c1, n0, n1, z0, z1, f0, f1⟩ := HK.out w2 HA2.out; have t1 : w1.heap.size < w2.heap.size := by omega)
  have HS2 := Lib.hid (show (w2.setCell ⟨w1.heap.size, 0, none⟩ (.slice p2 (g.ns.length + 1) c2)).heap.size = w2.heap.size by simp)
  have HA2' := Lib.hid (HA2.out.setCell (p := ⟨w1.heap.size, 0, none⟩) (by simp; omega) (.slice p2 (g.ns.length + 1) c2))
  have HO2 := Lib.hid (show (more g [x] []).Own (w.heap.size + 3) (w2.setCell ⟨w1.heap.size, 0, none⟩ (.slice p2 (g.ns.length + 1) c2)) (.agg #[.slice p2 (g.ns.length + 1) c2, .slice pe g.es.length ce]) F' F2 by
    have hk : Chg [w1.heap.size] w2 (w2.setCell ⟨w1.heap.size, 0, none⟩ (.slice p2 (g.ns.length + 1) c2)) := (Chg.refl _ w2).setCell (by simp) _
    have hr := HR.out.2.1
    have hlo := LO.out
    have hF : ∀ y ∈ F', (y ∈ F1 ∨ w1.heap.size + 2 ≤ y) := fun y hy => by have := hr y hy; rw [hWs] at this; exact this
    have hoth : ∀ y ∈ F2, y ∉ F1 := fun y hy hy2 => LD.out y hy2 hy
    refine ⟨.slice p2 (g.ns.length + 1) c2, .slice pe g.es.length ce, rfl, by simpa [more] using ((HR.out.1.own (enc := Nd.cells) (fun _ => rfl)).chg hk (fun y hy => by rcases hF y hy with h | h; (have := (hlo y (List.mem_append_left _ h)).2; simp; omega); (simp; omega))), by simpa [more] using (((((HE.out.own (enc := Ed.cells) (fun _ => rfl)).below HBW.out).chg HR.out.2.2 hoth).chg hk (fun y hy => by have := (hlo y (List.mem_append_right _ hy)).2; simp; omega))), ?_, ?_, ?_⟩
    · intro y hy; rcases hF y hy with h | h; (exact (hlo y (List.mem_append_left _ h)).1); omega
    · intro y hy; exact (hlo y (List.mem_append_right _ hy)).1
    · intro y hy hy2; rcases hF y hy with h | h; (exact LD.out y h hy2); (have := (hlo y (List.mem_append_right _ hy2)).2; omega))
  have r0 : (w2.setCell ⟨w1.heap.size, 0, none⟩ (.slice p2 (g.ns.length + 1) c2)).cell? ⟨w1.heap.size, 0, none⟩ = some (.slice p2 (g.ns.length + 1) c2) := set_same _ _ _ _ _ q0
  have r1 : (w2.setCell ⟨w1.heap.size, 0, none⟩ (.slice p2 (g.ns.length + 1) c2)).cell? ⟨w1.heap.size, 1, none⟩ = some (.slice pe g.es.length ce) := (set_near _ _ _ _ _ (by decide)).trans q1
  clear q0 q1 q2 q3
  refine (specGraphValid_any g _ B _ (HG.out.below ((HV.out.trans (HA2'.out.mono (by omega))).mono hB)) (by simp; omega) hok).mono ?_
  rintro e w3 ⟨rfl, hb3⟩
  have hs3 : w2.heap.size ≤ w3.heap.size := by have := hb3.size; simpa using this
  have r0' := keepc hb3 (by simp; omega) r0
  have r1' := keepc hb3 (by simp; omega) r1
  have HA3 := Lib.hid (HA2'.out.trans (hb3.mono (by simp; omega)))
  have HO3 := Lib.hid (HO2.out.below hb3)
  have HB3 := Lib.hid (HV.out.trans (HA3.out.mono (by omega)))
  clear hb3 r0 r1 c0 c1 n0 n1 z0 z1 f0 f1
  obtain ⟨hs3', c0, c1, n0, n1, z0, z1, f0, f1⟩ := HK.out w3 HA3.out
  cases hgv : gv g with
  | false =>
    have HT := Lib.hid (show extOk g [x] [] = false by unfold extOk; rw [hgv]; rfl)
    have HT2 := Lib.hid (show extR g [x] [] = ⟨[], []⟩ by unfold extR; rw [HT.out]; rfl)
    go_wp2_with fail
    exact bodyPost_ret (v := .tuple #[.agg #[.slice none 0 0, .slice none 0 0], .bool false]) (by simp [results, Try.results46, go_sem, z0, z1]) rfl ⟨_, [], [], by rw [HT.out], by rw [HT2.out]; exact Gr.Own.empty _ _, (HB3.out.setCell (by simp; omega) _).setCell (by simp; omega) _⟩
  | true =>
    go_wp2_with fail
    refine (specGraphValid_any (more g [x] []) _ w3.heap.size _ HO3.out.at (Nat.le_refl _) HM.out).mono ?_
    rintro e w4 ⟨rfl, hb4⟩
    have hs4 := hb4.size
    have t2 : w.heap.size + 1 + 1 < w4.heap.size := by omega
    have r0 := keepc hb4 (by omega) r0'
    have r1 := keepc hb4 (by omega) r1'
    have HA4 := Lib.hid (HA3.out.trans (hb4.mono (by omega)))
    have HO4 := Lib.hid (HO3.out.below hb4)
    have HB4 := Lib.hid (HV.out.trans (HA4.out.mono (by omega)))
    clear hb4 r0' r1' c0 c1 n0 n1 z0 z1 f0 f1
    obtain ⟨hs4', c0, c1, n0, n1, z0, z1, f0, f1⟩ := HK.out w4 HA4.out
    cases hgm : gv (more g [x] []) with
    | false =>
      have HT := Lib.hid (show extOk g [x] [] = false by unfold extOk; rw [hgv, hgm]; rfl)
      have HT2 := Lib.hid (show extR g [x] [] = ⟨[], []⟩ by unfold extR; rw [HT.out]; rfl)
      go_wp2_with fail
      exact bodyPost_ret (v := .tuple #[.agg #[.slice none 0 0, .slice none 0 0], .bool false]) (by simp [results, Try.results46, go_sem, z0, z1]) rfl ⟨_, [], [], by rw [HT.out], by rw [HT2.out]; exact Gr.Own.empty _ _, (HB4.out.setCell (by simp; omega) _).setCell (by simp; omega) _⟩
    | true =>
      have HT := Lib.hid (show extOk g [x] [] = true by unfold extOk; rw [hgv, hgm]; rfl)
      have HT2 := Lib.hid (show extR g [x] [] = more g [x] [] by unfold extR; rw [HT.out]; rfl)
      go_wp2_with fail
      exact bodyPost_ret (v := .tuple #[.agg #[.slice p2 (g.ns.length + 1) c2, .slice pe g.es.length ce], .bool true]) (by simp [results, Try.results46, go_sem, z0, z1]) rfl ⟨_, F', F2, by rw [HT.out], by rw [HT2.out]; exact (HO4.out.chg (G := [w.heap.size + 1 + 1]) (((Chg.refl _ _).setCell (by simp) _).setCell (by simp) _) (fun y hy => by have := HO4.out.lo y (List.mem_append_left _ hy); simp; omega) (fun y hy => by have := HO4.out.lo y (List.mem_append_right _ hy); simp; omega)).mono (by omega), (HB4.out.setCell (by simp; omega) _).setCell (by simp; omega) _⟩

set_option maxRecDepth 100000 in
set_option maxHeartbeats 4000000 in
theorem specAddEdge_any (g : Gr) (v : Value) (x : Ed) (B : Nat) (w : World) (hg : g.At B w v) (hB : B ≤ w.heap.size) (hok : g.Ok) (hx : x.Ok) (h1 : g.ns.length ≤ 2000000) (h2 : g.es.length ≤ 2000000) :
    Calls Try.prog 33 #[v, .agg #[.int .i64 x.f, .int .i64 x.t, .string x.l, .int .i64 x.n]] w fun e w' => ∃ v' F1 F2, e = .returned (.tuple #[v', .bool (extOk g [] [x])]) ∧ (extR g [] [x]).Own w.heap.size w' v' F1 F2 ∧ Below w.heap.size w w' := by
  have HG := Lib.hid hg
  have HX := Lib.hid hx
  clear hx
  obtain ⟨a, b, rfl, ha, hb⟩ := hg
  obtain ⟨pa, ca, rfl⟩ := ha.form
  obtain ⟨p, cap, rfl⟩ := hb.form
  clear ha hb
  have HM := Lib.hid (more_ok (xs := []) (ys := [x]) hok (by simp) (by simpa using HX.out))
  obtain ⟨i1, hi1, hz1, hsz1, hby1⟩ := info_parts infoEdge
  have HI := Lib.hid (And.intro hi1 (And.intro hz1 (And.intro hsz1 hby1)))
  clear hi1 hz1 hsz1 hby1
  go_enter Try.func33, Try.ntmps33
  go_wp2_with fail
  have HV := Lib.hid (((((Below.refl w.heap.size w).alloc (by simp) (.cells #[.slice pa g.ns.length ca, .slice p g.es.length cap] 55)).alloc (by simp) (.cells #[.int .i64 x.f, .int .i64 x.t, .string x.l, .int .i64 x.n] 57)).alloc (by simp <;> omega) (.cells #[.slice none 0 0, .slice none 0 0] 55)))
  have HK := Lib.hid (show ∀ wk, Below (w.heap.size + 3) (((w.alloc (.cells #[.slice pa g.ns.length ca, .slice p g.es.length cap] 55)).alloc (.cells #[.int .i64 x.f, .int .i64 x.t, .string x.l, .int .i64 x.n] 57)).alloc (.cells #[.slice none 0 0, .slice none 0 0] 55)) wk → w.heap.size + 3 ≤ wk.heap.size ∧ wk.cell? ⟨w.heap.size, 0, none⟩ = some (.slice pa g.ns.length ca) ∧ wk.cell? ⟨w.heap.size, 1, none⟩ = some (.slice p g.es.length cap) ∧ wk.cell? ⟨w.heap.size + 1, 0, none⟩ = some (.int .i64 x.f) ∧ wk.cell? ⟨w.heap.size + 1, 1, none⟩ = some (.int .i64 x.t) ∧ wk.cell? ⟨w.heap.size + 1, 2, none⟩ = some (.string x.l) ∧ wk.cell? ⟨w.heap.size + 1, 3, none⟩ = some (.int .i64 x.n) ∧ wk.cell? ⟨w.heap.size + 2, 0, none⟩ = some (.slice none 0 0) ∧ wk.cell? ⟨w.heap.size + 2, 1, none⟩ = some (.slice none 0 0) ∧ wk.frozen? ⟨w.heap.size + 2, 0, none⟩ = false ∧ wk.frozen? ⟨w.heap.size + 2, 1, none⟩ = false from
    fun wk hk => ⟨by have := hk.size; simp at this; omega, keepc hk (by omega) (by simp [go_sem]), keepc hk (by omega) (by simp [go_sem]), keepc hk (by omega) (by simp [go_sem]), keepc hk (by omega) (by simp [go_sem]), keepc hk (by omega) (by simp [go_sem]), keepc hk (by omega) (by simp [go_sem]), keepc hk (by omega) (by simp [go_sem]), keepc hk (by omega) (by simp [go_sem]), keepf hk (by omega) (by simp [go_sem]), keepf hk (by omega) (by simp [go_sem])⟩)
  have HA0 := Lib.hid (Below.refl (w.heap.size + 3) (((w.alloc (.cells #[.slice pa g.ns.length ca, .slice p g.es.length cap] 55)).alloc (.cells #[.int .i64 x.f, .int .i64 x.t, .string x.l, .int .i64 x.n] 57)).alloc (.cells #[.slice none 0 0, .slice none 0 0] 55)))
  refine (l1CopyB_any g _ B _ (HG.out.below (HV.out.mono hB)) (by simp; omega) (by omega) (by omega)).mono ?_
  rintro e w1 ⟨v1, F1, F2, rfl, ho1, hb1⟩
  have HA1 := Lib.hid (HA0.out.trans (hb1.mono (by simp)))
  have LO := Lib.hid (show (∀ x ∈ F1 ++ F2, w.heap.size + 3 ≤ x ∧ x < w1.heap.size) by
    have hl := ho1.own.lt
    obtain ⟨_, _, _, _, _, l1, l2, _⟩ := ho1
    intro x hx
    rcases List.mem_append.1 hx with hx | hx
    · have := l1 x hx; have := hl.1 x hx; simp at *; omega
    · have := l2 x hx; have := hl.2 x hx; simp at *; omega)
  obtain ⟨x1, x2, rfl, hn, he, l1, l2, ld⟩ := ho1
  have LD := Lib.hid ld
  have HN := Lib.hid hn
  have HE := Lib.hid he
  obtain ⟨pn, cn, rfl⟩ := (hn.own (enc := Nd.cells) (fun _ => rfl)).sl.form
  obtain ⟨pe, ce, rfl⟩ := (he.own (enc := Ed.cells) (fun _ => rfl)).sl.form
  clear hb1 hn he l1 l2 ld
  obtain ⟨hs1, c0, c1, n0, n1, n2, n3, z0, z1, f0, f1⟩ := HK.out w1 HA1.out
  have t01 : w.heap.size < w1.heap.size := by omega
  have t02 : w.heap.size + 1 < w1.heap.size := by omega
  have t03 : w.heap.size + 1 + 1 < w1.heap.size := by omega
  obtain ⟨W, eW⟩ : ∃ W, W = (w1.alloc (.cells #[.slice pn g.ns.length cn, .slice pe g.es.length ce] 55)).alloc (.cells #[.int .i64 x.f, .int .i64 x.t, .string x.l, .int .i64 x.n] 57) := ⟨_, rfl⟩
  have hBW : Below w1.heap.size w1 W := by rw [eW]; exact ((Below.refl _ _).alloc (Nat.le_refl _) _).alloc (by simp) _
  have hWs : W.heap.size = w1.heap.size + 2 := by rw [eW]; simp
  have hWn : ∀ j u, (Ed.cells x)[j]? = some u → W.cell? ⟨w1.heap.size + 1, j, none⟩ = some u := fun j u hu => by rw [eW]; exact cell_new (l := x.cells) (by simp) j u hu
  have k0 : W.cell? ⟨w1.heap.size, 0, none⟩ = some (.slice pn g.ns.length cn) := by rw [eW]; simp [go_sem]
  have k1 : W.cell? ⟨w1.heap.size, 1, none⟩ = some (.slice pe g.es.length ce) := by rw [eW]; simp [go_sem]
  have k2 : W.frozen? ⟨w1.heap.size, 0, none⟩ = false := by rw [eW]; simp [go_sem]
  have k3 : W.frozen? ⟨w1.heap.size, 1, none⟩ = false := by rw [eW]; simp [go_sem]
  have hap := OwnB.append (enc := Ed.cells) (sz := 4) (fun _ => rfl) (fun x u hu => flat_oneEdge [x] u (by simpa [flat] using hu)) 53 53 57 i1 _ 40 Try.underlying53 HI.out.1 HI.out.2.1 HI.out.2.2.1 HI.out.2.2.2 (by decide) (HE.out.below hBW) x (w1.heap.size + 1) 1 hWn (by omega) (by omega)
  have HAP := Lib.hid hap
  have HBW := Lib.hid hBW
  have HWC := Lib.hid (And.intro k0 (And.intro k1 (And.intro k2 k3)))
  clear hap hBW hWn k0 k1 k2 k3
  rw [eW] at HAP
  have EW := Lib.hid eW
  clear eW
  go_wp2_with (at_builtin; refine wpList_append_run rfl (.tmp 10) (.tmp 12) 53 rfl _ _ rfl rfl _ HAP.out ?_; rintro v2 w2 ⟨F', hr⟩; rw [← EW.out] at hr; obtain ⟨p2, c2, rfl⟩ := ((hr.1.own (enc := Ed.cells) (fun _ => rfl)).sl.form); have HR := Lib.hid hr; have hs2 := hr.2.2.size; obtain ⟨y0, y1, y2, y3⟩ := HWC.out; have q0 := chgc hr.2.2 (fun hx => by have := LO.out _ (List.mem_append_right _ hx); omega) y0; have q1 := chgc hr.2.2 (fun hx => by have := LO.out _ (List.mem_append_right _ hx); omega) y1; have q2 := chgf hr.2.2 (by omega) (fun hx => by have := LO.out _ (List.mem_append_right _ hx); omega) y2; have q3 := chgf hr.2.2 (by omega) (fun hx => by have := LO.out _ (List.mem_append_right _ hx); omega) y3; clear hr y0 y1 y2 y3 c0 c1 z0 z1 f0 f1 n0 n1 n2 n3; have HA2 := Lib.hid (HA1.out.trans ((HBW.out.mono (by omega)).trans (HR.out.2.2.below (by omega) (fun y hy => (LO.out y (List.mem_append_right _ hy)).1)))); obtain ⟨hs2', c0, c1, n0, n1, n2, n3, z0, z1, f0, f1⟩ := HK.out w2 HA2.out; have t1 : w1.heap.size < w2.heap.size := by omega)
  have HS2 := Lib.hid (show (w2.setCell ⟨w1.heap.size, 1, none⟩ (.slice p2 (g.es.length + 1) c2)).heap.size = w2.heap.size by simp)
  have HA2' := Lib.hid (HA2.out.setCell (p := ⟨w1.heap.size, 1, none⟩) (by simp; omega) (.slice p2 (g.es.length + 1) c2))
  have HO2 := Lib.hid (show (more g [] [x]).Own (w.heap.size + 3) (w2.setCell ⟨w1.heap.size, 1, none⟩ (.slice p2 (g.es.length + 1) c2)) (.agg #[.slice pn g.ns.length cn, .slice p2 (g.es.length + 1) c2]) F1 F' by
    have hk : Chg [w1.heap.size] w2 (w2.setCell ⟨w1.heap.size, 1, none⟩ (.slice p2 (g.es.length + 1) c2)) := (Chg.refl _ w2).setCell (by simp) _
    have hr := HR.out.2.1
    have hlo := LO.out
    have hF : ∀ y ∈ F', (y ∈ F2 ∨ w1.heap.size + 2 ≤ y) := fun y hy => by have := hr y hy; rw [hWs] at this; exact this
    have hoth : ∀ y ∈ F1, y ∉ F2 := fun y hy hy2 => LD.out y hy hy2
    refine ⟨.slice pn g.ns.length cn, .slice p2 (g.es.length + 1) c2, rfl, by simpa [more] using (((((HN.out.own (enc := Nd.cells) (fun _ => rfl)).below HBW.out).chg HR.out.2.2 hoth).chg hk (fun y hy => by have := (hlo y (List.mem_append_left _ hy)).2; simp; omega))), by simpa [more] using ((HR.out.1.own (enc := Ed.cells) (fun _ => rfl)).chg hk (fun y hy => by rcases hF y hy with h | h; (have := (hlo y (List.mem_append_right _ h)).2; simp; omega); (simp; omega))), ?_, ?_, ?_⟩
    · intro y hy; exact (hlo y (List.mem_append_left _ hy)).1
    · intro y hy; rcases hF y hy with h | h; (exact (hlo y (List.mem_append_right _ h)).1); omega
    · intro y hy hy2; rcases hF y hy2 with h | h; (exact LD.out y hy h); (have := (hlo y (List.mem_append_left _ hy)).2; omega))
  have r0 : (w2.setCell ⟨w1.heap.size, 1, none⟩ (.slice p2 (g.es.length + 1) c2)).cell? ⟨w1.heap.size, 1, none⟩ = some (.slice p2 (g.es.length + 1) c2) := set_same _ _ _ _ _ q1
  have r1 : (w2.setCell ⟨w1.heap.size, 1, none⟩ (.slice p2 (g.es.length + 1) c2)).cell? ⟨w1.heap.size, 0, none⟩ = some (.slice pn g.ns.length cn) := (set_near _ _ _ _ _ (by decide)).trans q0
  clear q0 q1 q2 q3
  refine (specGraphValid_any g _ B _ (HG.out.below ((HV.out.trans (HA2'.out.mono (by omega))).mono hB)) (by simp; omega) hok).mono ?_
  rintro e w3 ⟨rfl, hb3⟩
  have hs3 : w2.heap.size ≤ w3.heap.size := by have := hb3.size; simpa using this
  have r0' := keepc hb3 (by simp; omega) r0
  have r1' := keepc hb3 (by simp; omega) r1
  have HA3 := Lib.hid (HA2'.out.trans (hb3.mono (by simp; omega)))
  have HO3 := Lib.hid (HO2.out.below hb3)
  have HB3 := Lib.hid (HV.out.trans (HA3.out.mono (by omega)))
  clear hb3 r0 r1 c0 c1 n0 n1 n2 n3 z0 z1 f0 f1
  obtain ⟨hs3', c0, c1, n0, n1, n2, n3, z0, z1, f0, f1⟩ := HK.out w3 HA3.out
  cases hgv : gv g with
  | false =>
    have HT := Lib.hid (show extOk g [] [x] = false by unfold extOk; rw [hgv]; rfl)
    have HT2 := Lib.hid (show extR g [] [x] = ⟨[], []⟩ by unfold extR; rw [HT.out]; rfl)
    go_wp2_with fail
    exact bodyPost_ret (v := .tuple #[.agg #[.slice none 0 0, .slice none 0 0], .bool false]) (by simp [results, Try.results33, go_sem, z0, z1]) rfl ⟨_, [], [], by rw [HT.out], by rw [HT2.out]; exact Gr.Own.empty _ _, (HB3.out.setCell (by simp; omega) _).setCell (by simp; omega) _⟩
  | true =>
    go_wp2_with fail
    refine (specGraphValid_any (more g [] [x]) _ w3.heap.size _ HO3.out.at (Nat.le_refl _) HM.out).mono ?_
    rintro e w4 ⟨rfl, hb4⟩
    have hs4 := hb4.size
    have t2 : w.heap.size + 1 + 1 < w4.heap.size := by omega
    have r0 := keepc hb4 (by omega) r0'
    have r1 := keepc hb4 (by omega) r1'
    have HA4 := Lib.hid (HA3.out.trans (hb4.mono (by omega)))
    have HO4 := Lib.hid (HO3.out.below hb4)
    have HB4 := Lib.hid (HV.out.trans (HA4.out.mono (by omega)))
    clear hb4 r0' r1' c0 c1 n0 n1 n2 n3 z0 z1 f0 f1
    obtain ⟨hs4', c0, c1, n0, n1, n2, n3, z0, z1, f0, f1⟩ := HK.out w4 HA4.out
    cases hgm : gv (more g [] [x]) with
    | false =>
      have HT := Lib.hid (show extOk g [] [x] = false by unfold extOk; rw [hgv, hgm]; rfl)
      have HT2 := Lib.hid (show extR g [] [x] = ⟨[], []⟩ by unfold extR; rw [HT.out]; rfl)
      go_wp2_with fail
      exact bodyPost_ret (v := .tuple #[.agg #[.slice none 0 0, .slice none 0 0], .bool false]) (by simp [results, Try.results33, go_sem, z0, z1]) rfl ⟨_, [], [], by rw [HT.out], by rw [HT2.out]; exact Gr.Own.empty _ _, (HB4.out.setCell (by simp; omega) _).setCell (by simp; omega) _⟩
    | true =>
      have HT := Lib.hid (show extOk g [] [x] = true by unfold extOk; rw [hgv, hgm]; rfl)
      have HT2 := Lib.hid (show extR g [] [x] = more g [] [x] by unfold extR; rw [HT.out]; rfl)
      go_wp2_with fail
      exact bodyPost_ret (v := .tuple #[.agg #[.slice pn g.ns.length cn, .slice p2 (g.es.length + 1) c2], .bool true]) (by simp [results, Try.results33, go_sem, z0, z1]) rfl ⟨_, F1, F', by rw [HT.out], by rw [HT2.out]; exact (HO4.out.chg (G := [w.heap.size + 1 + 1]) (((Chg.refl _ _).setCell (by simp) _).setCell (by simp) _) (fun y hy => by have := HO4.out.lo y (List.mem_append_left _ hy); simp; omega) (fun y hy => by have := HO4.out.lo y (List.mem_append_right _ hy); simp; omega)).mono (by omega), (HB4.out.setCell (by simp; omega) _).setCell (by simp; omega) _⟩
end Go.Proofs.Ytchhobphockhhaa
