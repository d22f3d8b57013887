/- Drawing: a walk in the making. -/
import Derived.Test.YtfdkmngkpihpbaaDr
import Derived.Test.YtfdkmngkpihpbaaInts
namespace Go.Proofs.Ytfdkmngkpihpbaa
open Go.RowKit

section
variable {α β : Type} {sz1 : Nat} {enc1 : α → List Value} {T1 : TypeId} {xs : List α} {sz2 : Nat} {enc2 : β → List Value} {T2 : TypeId} {ys : List β} {b lo : Nat} {v1 v2 : Value} {w : World}
/-- One more behind field 0, and the field is stored anew. -/
theorem Two.app1h (hen : ∀ x, (enc1 x).length = sz1) (hone : ∀ (x : α), ∀ u ∈ enc1 x, u.oneCell' = true) (t ty : TypeId) (i : TypeInfo) (z : Value) (bytes : Nat)
    (ht : Try.prog.underlying t = some (.slice T1)) (hi : Try.prog.info? T1 = some i) (hz : i.zero = some z) (hsz : i.size = sz1) (hby : i.bytes = bytes) (hzs : z.cells.size = sz1)
    {w0 : World} {G0 : List Nat} (h : Two sz1 enc1 T1 xs sz2 enc2 T2 ys b lo v1 v2 w0) (hc0 : Chg G0 w0 w) (hG0 : ∀ x ∈ G0, x < lo) (y : α) (cs : Array Value) (hcs : cs = (enc1 y).toArray) (hl : xs.length < 1000000) (hb1 : (xs.length + 1) * bytes ≤ 140737488355328) :
    ∃ v' w', (Builtin.append_ #[t, t] ty #[v1, .slice (some ⟨w.heap.size, 0, none⟩) 1 1]).run Try.prog (w.alloc (.cells cs T1)) = .ok v' w' ∧
      (Two sz1 enc1 T1 (xs ++ [y]) sz2 enc2 T2 ys b lo v' v2 (w'.setCell ⟨b, 0, none⟩ v') ∧ (w'.cell? ⟨b, 0, none⟩ = some v1 ∧ w'.cell? ⟨b, 1, none⟩ = some v2 ∧ w'.frozen? ⟨b, 0, none⟩ = false ∧ w'.frozen? ⟨b, 1, none⟩ = false) ∧ ∃ G, Chg G w (w'.setCell ⟨b, 0, none⟩ v') ∧ ∀ x ∈ G, lo ≤ x ∧ x < w0.heap.size) := by
  subst hcs
  have hbe : Chg [] w (w.alloc (.cells (enc1 y).toArray T1)) := (Chg.refl _ _).alloc _
  have hce := (hc0.trans (hbe.mono (by simp)) : Chg G0 w0 _)
  obtain ⟨⟨k1, h2⟩, ⟨k3, k4⟩, ⟨k5, k6⟩, F1, F2, k7, k8, h9, h10, h11⟩ := h
  have hlt := k7.lt
  have hbG : b ∉ G0 := fun hm => by have := hG0 b hm; omega
  have h1 := Nat.lt_of_lt_of_le k1 hce.size
  have h3 := hce.cellOf hbG k3
  have h4 := hce.cellOf hbG k4
  have h5 := hce.frozenOf hbG k1 k5
  have h6 := hce.frozenOf hbG k1 k6
  have h7 := k7.chg hce (fun x hx hm => by have := hG0 x hm; have := (h9 x hx).1; omega)
  have h8 := k8.chg hce (fun x hx hm => by have := hG0 x hm; have := (h10 x hx).1; omega)
  obtain ⟨v', w', hr, F', o1, o2, hc⟩ := OwnS.append hen hone t ty T1 i z bytes ht hi hz hsz hby hzs h7 y w.heap.size 1 (fun j u hu => by
    rw [World.cell?_alloc_at _ _ _ _ rfl]; simpa using hu) (by omega) hb1
  have hbF : b ∉ F1 := fun hm => (h9 b hm).2 rfl
  have c0 := hc.cellOf hbF h3
  have c1 := hc.cellOf hbF h4
  have f0 := hc.frozenOf hbF h1 h5
  have f1 := hc.frozenOf hbF h1 h6
  have hbw : b < w'.heap.size := Nat.lt_of_lt_of_le h1 hc.size
  have hnew : ∀ x ∈ F', lo ≤ x ∧ x ≠ b := fun x hx => by
    rcases o2 x hx with h | h
    · exact h9 x h
    · omega
  have hs : Chg [b] w' (w'.setCell ⟨b, 0, none⟩ v') := (Chg.refl _ _).setCell (p := ⟨b, 0, none⟩) (by simp) v'
  have hmine := o1.chg hs (fun x hx hm => by simp at hm; exact (hnew x hx).2 hm)
  have hol := h8.lt
  have hother := (h8.chg hc (fun x hx hm => h11 x hm hx)).chg hs (fun x hx hm => by simp at hm; exact (h10 x hx).2 hm)
  have hdis : ∀ x ∈ F', x ∉ F2 := fun x hx hm => by
    rcases o2 x hx with h | h
    · exact (fun x hx hm => h11 x hm hx) x hm h
    · have := hol x hm; omega
  refine ⟨v', w', hr, ⟨⟨by simpa using hbw, h2⟩, ⟨set_same _ _ _ _ _ c0, (set_near _ _ _ _ _ (by omega)).trans c1⟩, ⟨by simpa [go_sem] using f0, by simpa [go_sem] using f1⟩, F', F2, hmine, hother, hnew, h10, fun x hx => hdis x hx⟩, ⟨c0, c1, f0, f1⟩, b :: F1, ?_, ?_⟩
  · refine ((hbe.mono (by simp)).trans (hc.mono (fun x hx => List.mem_cons_of_mem _ hx))).trans (hs.mono (by simp))
  · intro x hx
    rcases List.mem_cons.1 hx with rfl | hx
    · exact ⟨h2, k1⟩
    · exact ⟨(h9 x hx).1, hlt x hx⟩
/-- One more behind field 1, and the field is stored anew. -/
theorem Two.app2h (hen : ∀ x, (enc2 x).length = sz2) (hone : ∀ (x : β), ∀ u ∈ enc2 x, u.oneCell' = true) (t ty : TypeId) (i : TypeInfo) (z : Value) (bytes : Nat)
    (ht : Try.prog.underlying t = some (.slice T2)) (hi : Try.prog.info? T2 = some i) (hz : i.zero = some z) (hsz : i.size = sz2) (hby : i.bytes = bytes) (hzs : z.cells.size = sz2)
    {w0 : World} {G0 : List Nat} (h : Two sz1 enc1 T1 xs sz2 enc2 T2 ys b lo v1 v2 w0) (hc0 : Chg G0 w0 w) (hG0 : ∀ x ∈ G0, x < lo) (y : β) (cs : Array Value) (hcs : cs = (enc2 y).toArray) (hl : ys.length < 1000000) (hb1 : (ys.length + 1) * bytes ≤ 140737488355328) :
    ∃ v' w', (Builtin.append_ #[t, t] ty #[v2, .slice (some ⟨w.heap.size, 0, none⟩) 1 1]).run Try.prog (w.alloc (.cells cs T2)) = .ok v' w' ∧
      (Two sz1 enc1 T1 xs sz2 enc2 T2 (ys ++ [y]) b lo v1 v' (w'.setCell ⟨b, 1, none⟩ v') ∧ (w'.cell? ⟨b, 0, none⟩ = some v1 ∧ w'.cell? ⟨b, 1, none⟩ = some v2 ∧ w'.frozen? ⟨b, 0, none⟩ = false ∧ w'.frozen? ⟨b, 1, none⟩ = false) ∧ ∃ G, Chg G w (w'.setCell ⟨b, 1, none⟩ v') ∧ ∀ x ∈ G, lo ≤ x ∧ x < w0.heap.size) := by
  subst hcs
  have hbe : Chg [] w (w.alloc (.cells (enc2 y).toArray T2)) := (Chg.refl _ _).alloc _
  have hce := (hc0.trans (hbe.mono (by simp)) : Chg G0 w0 _)
  obtain ⟨⟨k1, h2⟩, ⟨k3, k4⟩, ⟨k5, k6⟩, F1, F2, k7, k8, h9, h10, h11⟩ := h
  have hlt := k8.lt
  have hbG : b ∉ G0 := fun hm => by have := hG0 b hm; omega
  have h1 := Nat.lt_of_lt_of_le k1 hce.size
  have h3 := hce.cellOf hbG k3
  have h4 := hce.cellOf hbG k4
  have h5 := hce.frozenOf hbG k1 k5
  have h6 := hce.frozenOf hbG k1 k6
  have h7 := k7.chg hce (fun x hx hm => by have := hG0 x hm; have := (h9 x hx).1; omega)
  have h8 := k8.chg hce (fun x hx hm => by have := hG0 x hm; have := (h10 x hx).1; omega)
  obtain ⟨v', w', hr, F', o1, o2, hc⟩ := OwnS.append hen hone t ty T2 i z bytes ht hi hz hsz hby hzs h8 y w.heap.size 1 (fun j u hu => by
    rw [World.cell?_alloc_at _ _ _ _ rfl]; simpa using hu) (by omega) hb1
  have hbF : b ∉ F2 := fun hm => (h10 b hm).2 rfl
  have c0 := hc.cellOf hbF h3
  have c1 := hc.cellOf hbF h4
  have f0 := hc.frozenOf hbF h1 h5
  have f1 := hc.frozenOf hbF h1 h6
  have hbw : b < w'.heap.size := Nat.lt_of_lt_of_le h1 hc.size
  have hnew : ∀ x ∈ F', lo ≤ x ∧ x ≠ b := fun x hx => by
    rcases o2 x hx with h | h
    · exact h10 x h
    · omega
  have hs : Chg [b] w' (w'.setCell ⟨b, 1, none⟩ v') := (Chg.refl _ _).setCell (p := ⟨b, 1, none⟩) (by simp) v'
  have hmine := o1.chg hs (fun x hx hm => by simp at hm; exact (hnew x hx).2 hm)
  have hol := h7.lt
  have hother := (h7.chg hc (fun x hx hm => h11 x hx hm)).chg hs (fun x hx hm => by simp at hm; exact (h9 x hx).2 hm)
  have hdis : ∀ x ∈ F', x ∉ F1 := fun x hx hm => by
    rcases o2 x hx with h | h
    · exact (fun x hx hm => h11 x hx hm) x hm h
    · have := hol x hm; omega
  refine ⟨v', w', hr, ⟨⟨by simpa using hbw, h2⟩, ⟨(set_near _ _ _ _ _ (by omega)).trans c0, set_same _ _ _ _ _ c1⟩, ⟨by simpa [go_sem] using f0, by simpa [go_sem] using f1⟩, F1, F', hother, hmine, h9, hnew, fun x hx hm => hdis x hm hx⟩, ⟨c0, c1, f0, f1⟩, b :: F2, ?_, ?_⟩
  · refine ((hbe.mono (by simp)).trans (hc.mono (fun x hx => List.mem_cons_of_mem _ hx))).trans (hs.mono (by simp))
  · intro x hx
    rcases List.mem_cons.1 hx with rfl | hx
    · exact ⟨h2, k1⟩
    · exact ⟨(h10 x hx).1, hlt x hx⟩
end
/-- A walk in the making, in the variable in block b. -/
abbrev WTwo (ns es : List Int) (b lo : Nat) (v1 v2 : Value) (w : World) : Prop := Two 1 intCells 3 ns 1 intCells 3 es b lo v1 v2 w
theorem appA {b lo : Nat} {v1 v2 : Value} {w w0 : World} {ns es : List Int} {G0 : List Nat} (h : WTwo ns es b lo v1 v2 w0) (hc0 : Chg G0 w0 w) (hG0 : ∀ x ∈ G0, x < lo) (x : Int) (hl : ns.length < 1000000) :
    ∃ v' w', (Builtin.append_ #[23, 23] 23 #[v1, .slice (some ⟨w.heap.size, 0, none⟩) 1 1]).run Try.prog (w.alloc (.cells #[.int .i64 x] 3)) = .ok v' w' ∧
      (WTwo (ns ++ [x]) es b lo v' v2 (w'.setCell ⟨b, 0, none⟩ v') ∧ (w'.cell? ⟨b, 0, none⟩ = some v1 ∧ w'.cell? ⟨b, 1, none⟩ = some v2 ∧ w'.frozen? ⟨b, 0, none⟩ = false ∧ w'.frozen? ⟨b, 1, none⟩ = false) ∧ (∃ p c, v' = .slice p (ns.length + 1) c) ∧ ∃ G, Chg G w (w'.setCell ⟨b, 0, none⟩ v') ∧ ∀ x ∈ G, lo ≤ x ∧ x < w0.heap.size) := by
  obtain ⟨i, hi, hz, hs, hb⟩ := infoI
  obtain ⟨v', w', h1, h2, h3, h4⟩ := Two.app1h (enc1 := intCells) (sz1 := 1) (fun _ => rfl) (fun x u hu => by simp [intCells] at hu; subst hu; rfl) 23 23 i _ 8 Try.underlying23 hi hz hs hb (by decide) h hc0 hG0 x _ rfl hl (by omega)
  refine ⟨v', w', h1, h2, h3, ?_, h4⟩
  obtain ⟨_, _, _, F1, F2, o1, o2, _⟩ := h2
  simpa using OwnS.form o1
theorem appB {b lo : Nat} {v1 v2 : Value} {w w0 : World} {ns es : List Int} {G0 : List Nat} (h : WTwo ns es b lo v1 v2 w0) (hc0 : Chg G0 w0 w) (hG0 : ∀ x ∈ G0, x < lo) (x : Int) (hl : es.length < 1000000) :
    ∃ v' w', (Builtin.append_ #[23, 23] 23 #[v2, .slice (some ⟨w.heap.size, 0, none⟩) 1 1]).run Try.prog (w.alloc (.cells #[.int .i64 x] 3)) = .ok v' w' ∧
      (WTwo ns (es ++ [x]) b lo v1 v' (w'.setCell ⟨b, 1, none⟩ v') ∧ (w'.cell? ⟨b, 0, none⟩ = some v1 ∧ w'.cell? ⟨b, 1, none⟩ = some v2 ∧ w'.frozen? ⟨b, 0, none⟩ = false ∧ w'.frozen? ⟨b, 1, none⟩ = false) ∧ (∃ p c, v' = .slice p (es.length + 1) c) ∧ ∃ G, Chg G w (w'.setCell ⟨b, 1, none⟩ v') ∧ ∀ x ∈ G, lo ≤ x ∧ x < w0.heap.size) := by
  obtain ⟨i, hi, hz, hs, hb⟩ := infoI
  obtain ⟨v', w', h1, h2, h3, h4⟩ := Two.app2h (enc2 := intCells) (sz2 := 1) (fun _ => rfl) (fun x u hu => by simp [intCells] at hu; subst hu; rfl) 23 23 i _ 8 Try.underlying23 hi hz hs hb (by decide) h hc0 hG0 x _ rfl hl (by omega)
  refine ⟨v', w', h1, h2, h3, ?_, h4⟩
  obtain ⟨_, _, _, F1, F2, o1, o2, _⟩ := h2
  simpa using OwnS.form o2
theorem WTwo.has {ns es : List Int} {w : World} {b lo : Nat} {v1 v2 : Value} (h : WTwo ns es b lo v1 v2 w) : ∃ F, (⟨ns, es⟩ : Wk).Has (.agg #[v1, v2]) F w ∧ ∀ x ∈ F, lo ≤ x ∧ x ≠ b := by
  obtain ⟨_, _, _, F1, F2, h7, h8, h9, h10, h11⟩ := h
  refine ⟨F1 ++ F2, ⟨_, _, F1, F2, rfl, rfl, OwnS.own (enc := intCells) (fun _ => rfl) h7, OwnS.own (enc := intCells) (fun _ => rfl) h8, h11⟩, fun x hx => ?_⟩
  rcases List.mem_append.1 hx with h | h
  · exact h9 x h
  · exact h10 x h
end Go.Proofs.Ytfdkmngkpihpbaa
