/- A table in the making: names and rows are appended in a variable; pure sizes. -/
import Derived.Test.YtfdkmngkpihpbaaTbA
import Derived.Test.YtfdkmngkpihpbaaDr
import Derived.Test.YtfdkmngkpihpbaaInts
namespace Go.Proofs.Ytfdkmngkpihpbaa
open Go.RowKit

theorem sumS_max {cs : List ByteArray} {m : Nat} (h : ∀ s ∈ cs, s.size ≤ m) : sumS cs ≤ m * cs.length := by
  induction cs with
  | nil => simp [sumS]
  | cons s r ih =>
    have h1 := h s (by simp)
    have h2 := ih fun x hx => h x (by simp [hx])
    simp only [sumS, List.map_cons, List.sum_cons, List.length_cons, Nat.mul_add, Nat.mul_one] at h2 ⊢
    omega
theorem sumR_max {rs : List (List Int)} {m : Nat} (h : ∀ s ∈ rs, s.length ≤ m) : sumR rs ≤ m * rs.length := by
  induction rs with
  | nil => simp [sumR]
  | cons s r ih =>
    have h1 := h s (by simp)
    have h2 := ih fun x hx => h x (by simp [hx])
    simp only [sumR, List.map_cons, List.sum_cons, List.length_cons, Nat.mul_add, Nat.mul_one] at h2 ⊢
    omega
/-- The variable in block k holds the names cs and the rows ys; both can be appended to. -/
def TDr (cs : List ByteArray) (ys : List (List Int)) (k lo : Nat) (a b : Value) (u : World) : Prop :=
  (lo ≤ k ∧ k < u.heap.size) ∧ (u.cell? ⟨k, 0, none⟩ = some a ∧ u.cell? ⟨k, 1, none⟩ = some b) ∧ (u.frozen? ⟨k, 0, none⟩ = false ∧ u.frozen? ⟨k, 1, none⟩ = false) ∧
    ∃ F1 F2, OwnS 1 strCells 9 u a cs F1 ∧ kRow.OwB 23 u b ys F2 ∧ (∀ y ∈ F1, lo ≤ y ∧ y ≠ k) ∧ (∀ y ∈ F2, lo ≤ y ∧ y ≠ k) ∧ ∀ y ∈ F1, y ∉ F2
section
variable {cs : List ByteArray} {ys : List (List Int)} {k lo : Nat} {a b : Value} {u E : World} {G : List Nat}
theorem TDr.chg (h : TDr cs ys k lo a b u) (hc : Chg G u E) (hG : ∀ x ∈ G, x < lo) : TDr cs ys k lo a b E := by
  obtain ⟨⟨h1, h2⟩, ⟨h3, h4⟩, ⟨h5, h6⟩, F1, F2, h7, h8, h9, h10, h11⟩ := h
  have hb : k ∉ G := fun hm => by have := hG k hm; omega
  exact ⟨⟨h1, Nat.lt_of_lt_of_le h2 hc.size⟩, ⟨hc.cellOf hb h3, hc.cellOf hb h4⟩, ⟨hc.frozenOf hb h2 h5, hc.frozenOf hb h2 h6⟩, F1, F2,
    h7.chg hc (fun x hx hm => by have := hG x hm; have := (h9 x hx).1; omega), h8.chg hc (fun x hx hm => by have := hG x hm; have := (h10 x hx).1; omega), h9, h10, h11⟩
theorem TDr.form (h : TDr cs ys k lo a b u) : ∃ p c q d, a = .slice p cs.length c ∧ b = .slice q ys.length d := by
  obtain ⟨_, _, _, F1, F2, h7, h8, _⟩ := h
  obtain ⟨p, c, rfl⟩ := OwnS.form h7
  obtain ⟨q, d, rfl⟩ := h8.form
  exact ⟨p, c, q, d, rfl, rfl⟩
theorem TDr.has (h : TDr cs ys k lo a b u) : ∃ F, (Tb.mk cs ys).Has (.agg #[a, b]) F u ∧ ∀ y ∈ F, lo ≤ y ∧ y ≠ k := by
  obtain ⟨_, _, _, F1, F2, h7, h8, h9, h10, h11⟩ := h
  refine ⟨F1 ++ F2, ⟨a, b, F1, F2, rfl, rfl, kStr_ow.2 (OwnS.own (enc := strCells) (fun _ => rfl) h7), h8.ow, h11⟩, fun y hy => ?_⟩
  rcases List.mem_append.1 hy with hy | hy
  · exact h9 y hy
  · exact h10 y hy
/-- What an append leaves ahead of its store. -/
def TKeep (k : Nat) (a b : Value) (w' : World) : Prop := w'.cell? ⟨k, 0, none⟩ = some a ∧ w'.cell? ⟨k, 1, none⟩ = some b ∧ w'.frozen? ⟨k, 0, none⟩ = false ∧ w'.frozen? ⟨k, 1, none⟩ = false ∧ k < w'.heap.size
/-- One more name. -/
theorem TDr.appC (h : TDr cs ys k lo a b u) (hE : Chg G u E) (hG : ∀ x ∈ G, x < lo) (ty : TypeId) (s : ByteArray) (g c : Nat) (h0 : E.cell? ⟨g, 0, none⟩ = some (.string s)) (hl : cs.length ≤ 1000) :
    ∃ v' w', (Builtin.append_ #[30, 30] ty #[a, .slice (some ⟨g, 0, none⟩) 1 c]).run Try.prog E = .ok v' w' ∧
      (TKeep k a b w' ∧ TDr (cs ++ [s]) ys k lo v' b (w'.setCell ⟨k, 0, none⟩ v') ∧ ∃ H, Chg H E (w'.setCell ⟨k, 0, none⟩ v') ∧ ∀ x ∈ H, lo ≤ x) := by
  obtain ⟨⟨h1, h2⟩, ⟨h3, h4⟩, ⟨h5, h6⟩, F1, F2, h7, h8, h9, h10, h11⟩ := h.chg hE hG
  obtain ⟨i, hi, hzz⟩ := Option.map_eq_some_iff.1 infoStrT
  simp only [Prod.mk.injEq] at hzz
  obtain ⟨hz, hs, hb⟩ := hzz
  obtain ⟨v', w', hr, F', o1, o2, hc⟩ := OwnS.append (enc := strCells) (sz := 1) (fun _ => rfl) (fun x u hu => by simp [strCells] at hu; subst hu; rfl) 30 ty 9 i _ 16 Try.underlying30 hi hz hs hb (by decide) h7 s g c
    (fun j u hu => by
      obtain rfl : j = 0 := by
        have hj := (List.getElem?_eq_some_iff.1 hu).1
        simp [strCells] at hj; omega
      simp [strCells] at hu; subst hu; exact h0) (by omega) (by omega)
  have hbF : k ∉ F1 := fun hm => (h9 k hm).2 rfl
  have c0 := hc.cellOf hbF h3
  have c1 := hc.cellOf hbF h4
  have f0 := hc.frozenOf hbF h2 h5
  have f1 := hc.frozenOf hbF h2 h6
  have hbw : k < w'.heap.size := Nat.lt_of_lt_of_le h2 hc.size
  have hnew : ∀ x ∈ F', lo ≤ x ∧ x ≠ k := fun x hx => by
    rcases o2 x hx with h | h
    · exact h9 x h
    · omega
  have hst : Chg [k] w' (w'.setCell ⟨k, 0, none⟩ v') := (Chg.refl _ _).setCell (p := ⟨k, 0, none⟩) (by simp) v'
  have hol := h8.lt
  refine ⟨v', w', hr, ⟨c0, c1, f0, f1, hbw⟩, ⟨⟨h1, by simpa using hbw⟩, ⟨set_same _ _ _ _ _ c0, (set_near _ _ _ _ _ (by omega)).trans c1⟩, ⟨by simpa [go_sem] using f0, by simpa [go_sem] using f1⟩, F', F2, OwnS.chg o1 hst (fun x hx hm => by simp at hm; exact (hnew x hx).2 hm), (h8.chg hc (fun x hx hm => h11 x hm hx)).chg hst (fun x hx hm => by simp at hm; exact (h10 x hx).2 hm), hnew, h10, fun x hx hm => ?_⟩, k :: F1, (hc.mono (fun x hx => List.mem_cons_of_mem _ hx)).trans (hst.mono (by simp)), fun x hx => ?_⟩
  · rcases o2 x hx with h | h
    · exact h11 x h hm
    · have := hol x hm; omega
  · rcases List.mem_cons.1 hx with rfl | hx
    · exact h1
    · exact (h9 x hx).1
/-- One more row. -/
theorem TDr.appR (h : TDr cs ys k lo a b u) (hE : Chg G u E) (hG : ∀ x ∈ G, x < lo) (ty : TypeId) (y : List Int) (q : Option Addr) (c0 : Nat) (Y : List Nat) (g c : Nat) (ho : OwnSl 1 intCells E (.slice q y.length c0) y Y) (hY : ∀ x ∈ Y, u.heap.size ≤ x)
    (h0 : E.cell? ⟨g, 0, none⟩ = some (.slice q y.length c0)) (hl : ys.length ≤ 1048576) :
    ∃ v' w', (Builtin.append_ #[31, 31] ty #[b, .slice (some ⟨g, 0, none⟩) 1 c]).run Try.prog E = .ok v' w' ∧
      (TKeep k a b w' ∧ TDr cs (ys ++ [y]) k lo a v' (w'.setCell ⟨k, 1, none⟩ v') ∧ ∃ H, Chg H E (w'.setCell ⟨k, 1, none⟩ v') ∧ ∀ x ∈ H, lo ≤ x) := by
  obtain ⟨⟨h1, h2⟩, ⟨h3, h4⟩, ⟨h5, h6⟩, F1, F2, h7, h8, h9, h10, h11⟩ := h
  have hb : k ∉ G := fun hm => by have := hG k hm; omega
  have lt1 := h7.lt
  have lt2 := h8.lt
  have hEs := hE.size
  have o7 := OwnS.chg h7 hE (fun x hx hm => by have := hG x hm; have := (h9 x hx).1; omega)
  have o8 := h8.chg hE (fun x hx hm => by have := hG x hm; have := (h10 x hx).1; omega)
  have d3 := hE.cellOf hb h3
  have d4 := hE.cellOf hb h4
  have d5 := hE.frozenOf hb h2 h5
  have d6 := hE.frozenOf hb h2 h6
  have hkE : k < E.heap.size := by omega
  obtain ⟨v', w', hr, F', o1, o2, hc⟩ := appRow o8 ty y q c0 Y g c ho (fun x hx hx2 => by have := lt2 x hx; have := hY x hx2; omega) h0 hl
  have hbF : k ∉ F2 := fun hm => (h10 k hm).2 rfl
  have c0' := hc.cellOf hbF d3
  have c1' := hc.cellOf hbF d4
  have f0 := hc.frozenOf hbF hkE d5
  have f1 := hc.frozenOf hbF hkE d6
  have hbw : k < w'.heap.size := Nat.lt_of_lt_of_le hkE hc.size
  have hnew : ∀ x ∈ F', lo ≤ x ∧ x ≠ k := fun x hx => by
    rcases o2 x hx with h | h | h
    · exact h10 x h
    · have := hY x h; omega
    · omega
  have hst : Chg [k] w' (w'.setCell ⟨k, 1, none⟩ v') := (Chg.refl _ _).setCell (p := ⟨k, 1, none⟩) (by simp) v'
  refine ⟨v', w', hr, ⟨c0', c1', f0, f1, hbw⟩, ⟨⟨h1, by simpa using hbw⟩, ⟨(set_near _ _ _ _ _ (by omega)).trans c0', set_same _ _ _ _ _ c1'⟩, ⟨by simpa [go_sem] using f0, by simpa [go_sem] using f1⟩, F1, F', OwnS.chg (OwnS.chg o7 hc (fun x hx hm => h11 x hx hm)) hst (fun x hx hm => by simp at hm; exact (h9 x hx).2 hm), o1.chg hst (fun x hx hm => by simp at hm; exact (hnew x hx).2 hm), h9, hnew, fun x hx hm => ?_⟩, k :: F2, (hc.mono (fun x hx => List.mem_cons_of_mem _ hx)).trans (hst.mono (by simp)), fun x hx => ?_⟩
  · have := lt1 x hx
    rcases o2 x hm with h | h | h
    · exact h11 x hx h
    · have := hY x h; omega
    · omega
  · rcases List.mem_cons.1 hx with rfl | hx
    · exact h1
    · exact (h10 x hx).1
/-- The names are left out. -/
theorem TDr.clear (h : TDr cs ys k lo a b u) (hE : Chg G u E) (hG : ∀ x ∈ G, x < lo) (p : Option Addr) : TDr [] ys k lo (.slice p 0 0) b (E.setCell ⟨k, 0, none⟩ (.slice p 0 0)) := by
  obtain ⟨⟨h1, h2⟩, ⟨h3, h4⟩, ⟨h5, h6⟩, F1, F2, h7, h8, h9, h10, h11⟩ := h.chg hE hG
  have hst : Chg [k] E (E.setCell ⟨k, 0, none⟩ (.slice p 0 0)) := (Chg.refl _ _).setCell (p := ⟨k, 0, none⟩) (by simp) _
  exact ⟨⟨h1, by simpa using h2⟩, ⟨set_same _ _ _ _ _ h3, (set_near _ _ _ _ _ (by omega)).trans h4⟩, ⟨by simpa [go_sem] using h5, by simpa [go_sem] using h6⟩, [], F2, OwnS.empty p, h8.chg hst (fun x hx hm => by simp at hm; exact (h10 x hx).2 hm), by simp, h10, by simp⟩
/-- The first number of the first row is stored anew. -/
theorem TDr.first (h : TDr cs ys k lo a b u) (h0 : 0 < ys.length) (h1 : 0 < ys[0].length) :
    ∃ bq cap r o c, b = .slice (some ⟨bq, 0, none⟩) ys.length cap ∧ cap ≤ maxLen ∧ lo ≤ bq ∧ bq < u.heap.size ∧ lo ≤ r ∧ u.cell? ⟨bq, 0, none⟩ = some (.slice (some ⟨r, o, none⟩) ys[0].length c) ∧
      ∀ (E : World), Chg G u E → (∀ x ∈ G, x < lo) → (∃ z, E.cell? ⟨r, o, none⟩ = some (.int .i64 z)) ∧ E.frozen? ⟨r, o, none⟩ = false ∧ ∀ z, TDr cs (ys.set 0 (ys[0].set 0 z)) k lo a b (E.setCell ⟨r, o, none⟩ (.int .i64 z)) := by
  obtain ⟨⟨g1, g2⟩, ⟨g3, g4⟩, ⟨g5, g6⟩, F1, F2, g7, g8, g9, g10, g11⟩ := h
  obtain ⟨bq, cap, cs0, Y, rfl, hcap, hbq, hbY, hYF, hcell, hrow, hback⟩ := g8.upd h0
  obtain ⟨v, rfl, hv⟩ := hrow
  obtain ⟨q, c, rfl⟩ := (kInt_ow.1 hv).sl.form
  obtain ⟨r, o, rfl, rfl, hr, hfz, hel⟩ := (kInt_ow.1 hv).elem h1
  have hc0 := hcell 0 _ rfl
  rw [Nat.zero_mul, Nat.zero_add] at hc0
  have hrF := hYF r (by simp)
  have hrl := g10 r hrF
  have hbqF : bq ∈ F2 := by
    obtain ⟨rs, A1, A2, rfl, _, ⟨p9, cap9, e9, _, _, h9⟩, ho9⟩ := g8
    have hlen := ho9.len
    rcases h9 with ⟨rfl, _, _⟩ | ⟨b9, cur, rfl, rfl, _⟩
    · simp at hlen; omega
    · simp only [Value.slice.injEq, Option.some.injEq, Addr.mk.injEq] at e9
      obtain ⟨⟨rfl, _⟩, _⟩ := e9
      simp
  refine ⟨bq, cap, r, o, c, rfl, hcap, (g10 bq hbqF).1, hbq, hrl.1, hc0, fun E hE hG => ?_⟩
  have hrG : r ∉ G := fun hm => by have := hG r hm; omega
  have e0 := hel 0 _ rfl
  simp only [Nat.zero_mul, Nat.add_zero] at e0
  have d0 := hE.cellOf hrG e0
  have d1 := hE.frozenOf hrG hr (hfz o)
  have hkG : k ∉ G := fun hm => by have := hG k hm; omega
  refine ⟨⟨_, d0⟩, d1, fun z => ?_⟩
  have hst : Chg [r] E (E.setCell ⟨r, o, none⟩ (.int .i64 z)) := (Chg.refl _ _).setCell (p := ⟨r, o, none⟩) (by simp) _
  have hall : Chg (r :: G) u (E.setCell ⟨r, o, none⟩ (.int .i64 z)) := (hE.mono (fun x hx => List.mem_cons_of_mem _ hx)).trans (hst.mono (by simp))
  have hkr : k ∉ (r :: G) := fun hm => by
    rcases List.mem_cons.1 hm with rfl | hm
    · exact hrl.2 rfl
    · exact hkG hm
  have hE2 := (kInt_ow.1 hv).chg hE (fun x hx hm => by simp at hx; subst hx; exact hrG hm)
  have hnew := OwnSl.store (k := 0) hE2 h1 (fun _ => rfl) 0 (by omega) z (.int .i64 z) rfl
  simp only [Nat.zero_mul, Nat.add_zero] at hnew
  have hF2G : ∀ x ∈ F2, x ∉ G := fun x hx hm => by have := hG x hm; have := (g10 x hx).1; omega
  obtain ⟨bq', cap', cs1, Y', e', _, _, hbY', hYF', hcell', hrow', hback'⟩ := (g8.chg hE hF2G).upd h0
  obtain ⟨v', rfl, hv'⟩ := hrow'
  cases e'
  have hcs := hcell' 0 _ rfl
  rw [Nat.zero_mul, Nat.zero_add] at hcs
  have hbqG : bq ∉ G := hF2G bq hbqF
  rw [hE.cellOf hbqG hc0] at hcs
  cases hcs
  obtain ⟨r', o', e2, rfl, _, _, _⟩ := (kInt_ow.1 hv').elem h1
  cases e2
  refine ⟨⟨g1, Nat.lt_of_lt_of_le g2 hall.size⟩, ⟨hall.cellOf hkr g3, hall.cellOf hkr g4⟩, ⟨hall.frozenOf hkr g2 g5, hall.frozenOf hkr g2 g6⟩, F1, F2, OwnS.chg g7 hall (fun x hx hm => ?_), ?_, g9, g10, g11⟩
  · rcases List.mem_cons.1 hm with rfl | hm
    · exact g11 x hx hrF
    · have := hG x hm; have := (g9 x hx).1; omega
  · exact hback' _ _ hst ⟨_, rfl, kInt_ow.2 (by simpa using hnew)⟩
end
end Go.Proofs.Ytfdkmngkpihpbaa
