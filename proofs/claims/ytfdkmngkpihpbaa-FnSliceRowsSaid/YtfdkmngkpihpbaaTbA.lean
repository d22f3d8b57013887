/- A table in a variable, whose rows are appended to; impl.tableWith. -/
import Derived.Test.YtfdkmngkpihpbaaTbV
import Derived.Test.YtfdkmngkpihpbaaTbM
import Derived.Test.YtfdkmngkpihpbaaConcatS
import Derived.Test.YtfdkmngkpihpbaaConcatI
import Derived.Test.YtfdkmngkpihpbaaKdB
import Derived.Test.YtfdkmngkpihpbaaDr
namespace Go.Proofs.Ytfdkmngkpihpbaa
open Go.RowKit

/-- One more row, behind the others. -/
theorem appRow {w : World} {v : Value} {xs : List (List Int)} {F : List Nat} (h : kRow.OwB 23 w v xs F) (ty : TypeId) (y : List Int) (p : Option Addr) (c0 : Nat) (G : List Nat) (g c : Nat) (ho : OwnSl 1 intCells w (.slice p y.length c0) y G) (hd : ∀ x ∈ F, x ∉ G)
    (h0 : w.cell? ⟨g, 0, none⟩ = some (.slice p y.length c0)) (h63 : xs.length ≤ 1048576) :
    ∃ v' w', (Builtin.append_ #[31, 31] ty #[v, .slice (some ⟨g, 0, none⟩) 1 c]).run Try.prog w = .ok v' w' ∧ ∃ F', kRow.OwB 23 w' v' (xs ++ [y]) F' ∧ (∀ x ∈ F', x ∈ F ∨ x ∈ G ∨ w.heap.size ≤ x) ∧ Chg F w w' := by
  obtain ⟨i, hi, hzz⟩ := Option.map_eq_some_iff.1 infoRowT
  simp only [Prod.mk.injEq] at hzz
  obtain ⟨hz, hs, hb⟩ := hzz
  refine Kd.OwB.append (K := kRow) 31 ty 23 i _ 24 Try.underlying31 hi hz hs hb rfl h y [.slice p y.length c0] G g c ⟨_, rfl, kInt_ow.2 ho⟩ ?_ hd ?_ (by omega) (by omega)
  · intro u hu
    simp only [List.mem_cons, List.not_mem_nil, or_false] at hu
    subst hu; rfl
  · intro j u hu
    match j, hu with
    | 0, hu => simp at hu; subst hu; exact h0
    | j + 1, hu => simp at hu
/-- The variable in block k holds the names cs and the rows ys, in memory of the call's own from lo on. -/
def TAcc (cs : List ByteArray) (ys : List (List Int)) (k lo : Nat) (a b : Value) (u : World) : Prop :=
  (lo ≤ k ∧ k < u.heap.size) ∧ (u.cell? ⟨k, 0, none⟩ = some a ∧ u.cell? ⟨k, 1, none⟩ = some b) ∧ (u.frozen? ⟨k, 0, none⟩ = false ∧ u.frozen? ⟨k, 1, none⟩ = false) ∧
    ∃ F1 F2, kStr.Ow u a cs F1 ∧ kRow.OwB 23 u b ys F2 ∧ (∀ y ∈ F1, lo ≤ y ∧ y ≠ k) ∧ (∀ y ∈ F2, lo ≤ y ∧ y ≠ k) ∧ ∀ y ∈ F1, y ∉ F2
section
variable {cs : List ByteArray} {ys : List (List Int)} {k lo : Nat} {a b : Value} {u u' : World}
theorem TAcc.below (h : TAcc cs ys k lo a b u) (hb : Below u.heap.size u u') : TAcc cs ys k lo a b u' := by
  obtain ⟨⟨h1, h2⟩, ⟨h3, h4⟩, ⟨h5, h6⟩, F1, F2, h7, h8, h9⟩ := h
  exact ⟨⟨h1, Nat.lt_of_lt_of_le h2 hb.size⟩, ⟨keepc hb h2 h3, keepc hb h2 h4⟩, ⟨(hb.frozen (p := ⟨k, 0, none⟩) h2).trans h5, (hb.frozen (p := ⟨k, 1, none⟩) h2).trans h6⟩, F1, F2, h7.below hb, h8.below hb, h9⟩
theorem TAcc.form (h : TAcc cs ys k lo a b u) : ∃ p c q d, a = .slice p cs.length c ∧ b = .slice q ys.length d := by
  obtain ⟨_, _, _, F1, F2, h7, h8, _⟩ := h
  obtain ⟨p, c, rfl⟩ := h7.form
  obtain ⟨q, d, rfl⟩ := h8.form
  exact ⟨p, c, q, d, rfl, rfl⟩
theorem TAcc.has (h : TAcc cs ys k lo a b u) : ∃ F, (Tb.mk cs ys).Has (.agg #[a, b]) F u ∧ ∀ y ∈ F, lo ≤ y ∧ y ≠ k := by
  obtain ⟨_, _, _, F1, F2, h7, h8, h9, h10, h11⟩ := h
  refine ⟨F1 ++ F2, ⟨a, b, F1, F2, rfl, rfl, h7, h8.ow, h11⟩, fun y hy => ?_⟩
  rcases List.mem_append.1 hy with hy | hy
  · exact h9 y hy
  · exact h10 y hy
/-- One more row. -/
theorem TAcc.app {E : World} (h : TAcc cs ys k lo a b u) (hE : Below u.heap.size u E) (ty : TypeId) (y : List Int) (q : Option Addr) (c0 : Nat) (G : List Nat) (g c : Nat) (ho : OwnSl 1 intCells E (.slice q y.length c0) y G) (hG : ∀ x ∈ G, u.heap.size ≤ x)
    (h0 : E.cell? ⟨g, 0, none⟩ = some (.slice q y.length c0)) (h63 : ys.length ≤ 1048576) :
    ∃ v' w', (Builtin.append_ #[31, 31] ty #[b, .slice (some ⟨g, 0, none⟩) 1 c]).run Try.prog E = .ok v' w' ∧
      ((w'.cell? ⟨k, 0, none⟩ = some a ∧ w'.cell? ⟨k, 1, none⟩ = some b ∧ w'.frozen? ⟨k, 1, none⟩ = false ∧ k < w'.heap.size) ∧ TAcc cs (ys ++ [y]) k lo a v' (w'.setCell ⟨k, 1, none⟩ v') ∧ Below lo u (w'.setCell ⟨k, 1, none⟩ v')) := by
  obtain ⟨⟨h1, h2⟩, ⟨h3, h4⟩, ⟨h5, h6⟩, F1, F2, h7, h8, h9, h10, h11⟩ := h
  have lt1 := h7.lt
  have lt2 := h8.lt
  have hEs := hE.size
  have hdis : ∀ x ∈ F2, x ∉ G := fun x hx hx2 => by have := lt2 x hx; have := hG x hx2; omega
  obtain ⟨v', w', hrun, F', ho', hF', hc'⟩ := appRow (h8.below hE) ty y q c0 G g c ho hdis h0 h63
  have hkF : k ∉ F2 := fun hx => (h10 k hx).2 rfl
  have hkE : k < E.heap.size := by omega
  have hkl : k < w'.heap.size := Nat.lt_of_lt_of_le hkE hc'.size
  have e0 : w'.cell? ⟨k, 0, none⟩ = some a := (World.cell?_of_block (a := ⟨k, 0, none⟩) (hc'.block k hkE hkF)).trans (keepc hE h2 h3)
  have e1 : w'.cell? ⟨k, 1, none⟩ = some b := (World.cell?_of_block (a := ⟨k, 1, none⟩) (hc'.block k hkE hkF)).trans (keepc hE h2 h4)
  have f0 : w'.frozen? ⟨k, 0, none⟩ = false := (World.frozen?_of_block (a := ⟨k, 0, none⟩) (hc'.block k hkE hkF)).trans ((hE.frozen (p := ⟨k, 0, none⟩) h2).trans h5)
  have f1 : w'.frozen? ⟨k, 1, none⟩ = false := (World.frozen?_of_block (a := ⟨k, 1, none⟩) (hc'.block k hkE hkF)).trans ((hE.frozen (p := ⟨k, 1, none⟩) h2).trans h6)
  have hF2 : ∀ x ∈ F', lo ≤ x ∧ x ≠ k := fun x hx => by
    rcases hF' x hx with h | h | h
    · exact h10 x h
    · have := hG x h; omega
    · omega
  have hst : Chg [k] w' (w'.setCell ⟨k, 1, none⟩ v') := (Chg.refl [k] w').setCell (by simp) _
  refine ⟨v', w', hrun, ⟨e0, e1, f1, hkl⟩, ⟨⟨h1, by simpa using hkl⟩, ⟨(set_near _ _ _ _ _ (by decide)).trans e0, set_same _ _ _ _ _ e1⟩, ⟨by simpa [go_sem] using f0, by simpa [go_sem] using f1⟩, F1, F', ((h7.below hE).chg hc' (fun x hx hx2 => h11 x hx hx2)).chg hst (fun x hx => by simpa using (h9 x hx).2), ho'.chg hst (fun x hx => by simpa using (hF2 x hx).2), h9, hF2, fun x hx hx2 => ?_⟩, ?_⟩
  · have := lt1 x hx
    rcases hF' x hx2 with h | h | h
    · exact h11 x hx h
    · have := hG x h; omega
    · omega
  · exact ((hE.mono (by omega)).trans (hc'.below (by omega) (fun x hx => (h10 x hx).1))).setCell (by omega) _
end
theorem concatStr_one (xs : List ByteArray) (v : Value) (b cap B : Nat) (w : World) (hc : w.cell? ⟨b, 0, none⟩ = some v) (hv : kStr.Rd B w v xs) (hB : B ≤ w.heap.size) (hn : xs.length ≤ 3000000) (hbw : b < w.heap.size) :
    Calls Try.prog 91 #[.slice (some ⟨b, 0, none⟩) 1 cap] w fun e w' => ∃ v' F, e = .returned v' ∧ kStr.Ow w' v' xs F ∧ (∀ x ∈ F, w.heap.size ≤ x) ∧ Below w.heap.size w w' := by
  refine (concatStr_any [(v, xs)] b cap B w (fun i hi => ?_) (fun i hi => ?_) hB (by simp) (by simpa [upTo] using hn) hbw).mono ?_
  · obtain rfl : i = 0 := by simpa using hi
    exact hc
  · obtain rfl : i = 0 := by simpa using hi
    exact kStr_rd.1 hv
  · rintro e w' ⟨v', F, he, ho, h1, h2⟩
    exact ⟨v', F, he, kStr_ow.2 (by simpa [joined] using ho), h1, h2⟩
theorem concatInt_one (xs : List Int) (v : Value) (b cap B : Nat) (w : World) (hc : w.cell? ⟨b, 0, none⟩ = some v) (hv : Sl 1 intCells B w v xs) (hB : B ≤ w.heap.size) (hn : xs.length ≤ 3000000) (hbw : b < w.heap.size) :
    Calls Try.prog 92 #[.slice (some ⟨b, 0, none⟩) 1 cap] w fun e w' => ∃ v' F, e = .returned v' ∧ OwnSl 1 intCells w' v' xs F ∧ (∀ x ∈ F, w.heap.size ≤ x) ∧ Below w.heap.size w w' := by
  refine (concatInt_any [(v, xs)] b cap B w (fun i hi => ?_) (fun i hi => ?_) hB (by simp) (by simpa [upTo] using hn) hbw).mono ?_
  · obtain rfl : i = 0 := by simpa using hi
    exact hc
  · obtain rfl : i = 0 := by simpa using hi
    exact hv
  · rintro e w' ⟨v', F, he, ho, h1, h2⟩
    exact ⟨v', F, he, by simpa [joined] using ho, h1, h2⟩
/-- What an answer of a table and a bool says. -/
def TbPost (R : Tb) (T : Bool) (w : World) (en : Ending) (w' : World) : Prop := ∃ v F, en = .returned (.tuple #[v, .bool T]) ∧ R.Has v F w' ∧ (∀ y ∈ F, w.heap.size ≤ y) ∧ Below w.heap.size w w'
def noTb : Tb := ⟨[], []⟩
def twR (x : Tb) : Tb := if x.ok = true then x else noTb
theorem noTb_has (u : World) : noTb.Has (.agg #[.slice none 0 0, .slice none 0 0]) [] u := ⟨_, _, [], [], rfl, rfl, ⟨none, 0, rfl, Nat.le_refl _, Nat.zero_le _, .inl ⟨rfl, rfl⟩⟩, ⟨none, 0, rfl, Nat.le_refl _, Nat.zero_le _, .inl ⟨rfl, rfl⟩⟩, by simp⟩
theorem TbPost.no {w w' : World} (h : Below w.heap.size w w') : TbPost noTb false w (.returned (.tuple #[.agg #[.slice none 0 0, .slice none 0 0], .bool false])) w' := ⟨_, [], rfl, noTb_has _, by simp, h⟩

set_option maxRecDepth 100000 in
set_option maxHeartbeats 4000000 in
theorem tableWith_any (cs : List ByteArray) (rs : List (List Int)) (va vb : Value) (B : Nat) (w : World) (ha : kStr.Rd B w va cs) (hb : kRow.Rd B w vb rs) (hB : B ≤ w.heap.size) (hok : ∀ s ∈ cs, s.size ≤ maxLen) (hn1 : cs.length ≤ 1048576) (hn2 : rs.length + sumR rs ≤ 1048576) :
    Calls Try.prog 57 #[va, vb] w (TbPost (twR ⟨cs, rs⟩) (Tb.ok ⟨cs, rs⟩) w) := by
  have HAR := Lib.hid ha
  have HBR := Lib.hid hb
  have HOK := Lib.hid hok
  obtain ⟨p0, c0, rfl⟩ := ha.form
  obtain ⟨q, d, rfl⟩ := hb.form
  have hmx := hb.max
  unfold maxLen at hmx
  clear ha hb hok
  obtain ⟨R, eR⟩ : ∃ R, R = twR ⟨cs, rs⟩ := ⟨_, rfl⟩
  obtain ⟨T, eT⟩ : ∃ T, T = Tb.ok ⟨cs, rs⟩ := ⟨_, rfl⟩
  rw [← eR, ← eT]
  have HR := Lib.hid (show R = if T = true then ⟨cs, rs⟩ else noTb by rw [eR, eT]; rfl)
  have HT := Lib.hid eT
  clear eR eT
  go_enter Try.func57, Try.ntmps57
  go_wp2_with fail
  obtain ⟨W1, eW1⟩ : ∃ u, u = (w.alloc (.cells #[.slice none 0 0, .slice none 0 0] 33)).alloc (.cells #[.slice p0 cs.length c0] 30) := ⟨_, rfl⟩
  rw [← eW1]
  have hs1 : w.heap.size + 2 ≤ W1.heap.size := by rw [eW1]; simp
  have hb1 : Below w.heap.size w W1 := by rw [eW1]; exact ((Below.refl _ _).alloc (Nat.le_refl _) _).alloc (by simp) _
  have hc1 : W1.cell? ⟨w.heap.size + 1, 0, none⟩ = some (.slice p0 cs.length c0) := by rw [eW1]; simp [go_sem]
  have HRES := Lib.hid (show ∀ E, Below (w.heap.size + 1) W1 E → w.heap.size < E.heap.size ∧ (E.cell? ⟨w.heap.size, 0, none⟩ = some (.slice none 0 0) ∧ E.cell? ⟨w.heap.size, 1, none⟩ = some (.slice none 0 0)) ∧ E.frozen? ⟨w.heap.size, 0, none⟩ = false ∧ E.frozen? ⟨w.heap.size, 1, none⟩ = false from fun E hE => by
    rw [eW1] at hE
    exact ⟨by have := hE.size; simp at this; omega, ⟨keepc hE (by omega) (by simp [go_sem]), keepc hE (by omega) (by simp [go_sem])⟩, (hE.frozen (p := ⟨w.heap.size, 0, none⟩) (by show w.heap.size < w.heap.size + 1; omega)).trans (by simp [go_sem]), (hE.frozen (p := ⟨w.heap.size, 1, none⟩) (by show w.heap.size < w.heap.size + 1; omega)).trans (by simp [go_sem])⟩)
  have HB1 := Lib.hid hb1
  clear eW1 hb1
  refine (concatStr_one cs _ (w.heap.size + 1) 1 B W1 hc1 (HAR.out.to (HB1.out.mono hB) (Nat.le_refl _)) (by omega) (by omega) (by omega)).mono ?_
  rintro en w2 ⟨v2, F2, rfl, ho2, hf2, hb2⟩
  have hs2 : W1.heap.size ≤ w2.heap.size := hb2.size
  have HB2 := Lib.hid (HB1.out.trans (hb2.mono (by omega)))
  have HR2 := Lib.hid (show Below (w.heap.size + 1) W1 w2 from hb2.mono (by omega))
  have HO2 := Lib.hid ho2
  have HF2 := Lib.hid hf2
  obtain ⟨p2, c2, rfl⟩ := ho2.form
  clear ho2 hf2 hb2 hc1
  go_wp2_with fail
  obtain ⟨W3, eW3⟩ : ∃ u, u = w2.alloc (.cells #[.slice p2 cs.length c2, .slice none 0 0] 33) := ⟨_, rfl⟩
  rw [← eW3]
  have hs3 : w2.heap.size < W3.heap.size := by rw [eW3]; simp
  have hb3 : Below w2.heap.size w2 W3 := by rw [eW3]; exact (Below.refl _ _).alloc (Nat.le_refl _) _
  have HT3 := Lib.hid (show TAcc cs (rs.take 0) w2.heap.size (w.heap.size + 1) (.slice p2 cs.length c2) (.slice none 0 0) W3 by
    have h2 := HO2.out.below hb3
    have hlt := HO2.out.lt
    rw [eW3] at h2 ⊢
    exact ⟨⟨by omega, by simp⟩, ⟨by simp [go_sem], by simp [go_sem]⟩, ⟨by simp [go_sem], by simp [go_sem]⟩, F2, [], h2, by simpa using Kd.OwB.nil kRow _ _ _, fun y hy => ⟨by have := HF2.out y hy; omega, by have := hlt y hy; omega⟩, by simp, by simp⟩)
  have HB3 := Lib.hid (HB2.out.trans (hb3.mono (by omega)))
  have HR3 := Lib.hid (HR2.out.trans (hb3.mono (by omega)))
  obtain ⟨kb, ekb⟩ : ∃ k, k = w2.heap.size := ⟨_, rfl⟩
  rw [← ekb] at HT3 ⊢
  have hkb : w.heap.size + 2 ≤ kb := by omega
  clear eW3 hb3 HO2 HF2 ekb
  obtain ⟨⟨_, hkl⟩, ⟨x0, x1⟩, _, _⟩ := HT3.out
  go_wp2_with fail
  clear x0 x1
  go_loopw [15] (fun i wr => ∃ (k : Nat) (b : Value), k ≤ rs.length ∧ i = .int .i64 k ∧ RowKit.Hid (TAcc cs (rs.take k) kb (w.heap.size + 1) (.slice p2 cs.length c2) b wr) ∧ RowKit.Hid (Below (w.heap.size + 1) W3 wr)) (fun i _ => rs.length - (intOf i).toNat)
  case atStart => exact ⟨0, _, Nat.zero_le _, rfl, HT3, Lib.hid (Below.refl _ _)⟩
  case round =>
    obtain ⟨k, b, hk, rfl, HTA, HBW⟩ := hrel
    have hsz := HBW.out.size
    have HBA := Lib.hid (HB3.out.trans (HBW.out.mono (by omega)))
    obtain ⟨⟨_, hkl2⟩, ⟨x0, x1⟩, ⟨g0, g1⟩, _⟩ := HTA.out
    by_cases hlt : k < rs.length
    · obtain ⟨bb, off, q2, c3, rfl, hbb, c0, hin⟩ := kRow_get (HBR.out.to (HBA.out.mono hB) (Nat.le_refl _)) hlt
      have hsize := sumR_get rs k hlt
      have htk := Lib.hid (List.take_succ_eq_append_getElem hlt)
      obtain ⟨y, ey⟩ : ∃ y, y = rs[k] := ⟨_, rfl⟩
      rw [← ey] at c0 hin hsize htk
      have HIN := Lib.hid hin
      have hyl : y.length ≤ 1048576 := by omega
      have HTK := Lib.hid (show (rs.take k).length ≤ 1048576 by rw [List.length_take]; omega)
      obtain ⟨_, _, qb, cb, _, hbf⟩ := HTA.out.form
      rw [List.length_take, Nat.min_eq_left hk] at hbf
      subst hbf
      clear ey hin hsize x0
      go_upto_region 5 with fail
      refine wp_region_E (last := 8) (S := fun w' => w'.cell? ⟨kb, 1, none⟩ = some (.slice qb k cb)) (by kernel_rfl) ?_ (fun hHeld => ?_)
      · exact x1
      have cW : Below wr.heap.size wr wr.drew := (Below.refl _ _).drew
      have HK := Lib.hid (fun (E : World) (hE : Below wr.heap.size wr E) => (keepc hE hkl2 x1 : E.cell? ⟨kb, 1, none⟩ = some (.slice qb k cb)))
      have szW : wr.heap.size ≤ wr.drew.heap.size := Nat.le_refl _
      generalize wr.drew = W0 at cW hHeld szW ⊢
      (refine takeE (i := 0) (v := ?_) [] rfl (by kernel_rfl) (by kernel_rfl) (fun _ _ _ h => h) (Or.inl ⟨by kernel_rfl, ?_⟩) (by assumption) ?_; rotate_left; (focus (intro w hSw; (try dsimp only at hSw); go_simp; first | done | with_reducible rfl | fail "takeE")); (try simp only [Act.put, List.setIfInBounds_toArray, List.set_cons_zero, List.set_cons_succ]))
      (refine takeE (i := 1) (v := ?_) [] rfl (by kernel_rfl) (by kernel_rfl) (fun _ _ _ h => h) (Or.inl ⟨by kernel_rfl, ?_⟩) (by assumption) ?_; rotate_left; (focus (intro w hSw; (try dsimp only at hSw); go_simp; first | done | with_reducible rfl | fail "takeE")); (try simp only [Act.put, List.setIfInBounds_toArray, List.set_cons_zero, List.set_cons_succ]))
      (refine takeE (i := 2) (v := ?_) [] rfl (by kernel_rfl) (by kernel_rfl) (fun _ _ _ h => h) (Or.inl ⟨by kernel_rfl, ?_⟩) (by assumption) ?_; rotate_left; (focus (intro w hSw; (try dsimp only at hSw); go_simp; first | done | with_reducible rfl | fail "takeE")); (try simp only [Act.put, List.setIfInBounds_toArray, List.set_cons_zero, List.set_cons_succ]))
      refine oneE (i := 3) rfl (by kernel_rfl) (by kernel_rfl) (fun K hK => ?_)
      go_simp
      refine hK.out _ _ (HK.out _ (show Below wr.heap.size wr _ by ((repeat (first | with_reducible assumption | with_reducible exact Below.refl _ _ | refine Below.setCell ?_ (by (first | omega | (simp; omega) | (simp; done) | fail "sml")) _ | refine Below.drew ?_ | refine Below.alloc ?_ (by (first | omega | (simp; omega) | (simp; done) | fail "sml")) _)); first | done | fail "chs"))) (fun hHeld => ?_)
      clear hK K
      (try simp only [Act.put, List.setIfInBounds_toArray, List.set_cons_zero, List.set_cons_succ])
      refine oneE (i := 4) rfl (by kernel_rfl) (by kernel_rfl) (fun K hK => ?_)
      go_simp
      go_at_call 92
      refine (concatInt_one y _ W0.heap.size 1 B _ (by simp [go_sem]) (HIN.out.below ((show Below wr.heap.size wr _ by ((repeat (first | with_reducible assumption | with_reducible exact Below.refl _ _ | refine Below.setCell ?_ (by (first | omega | (simp; omega) | (simp; done) | fail "sml")) _ | refine Below.drew ?_ | refine Below.alloc ?_ (by (first | omega | (simp; omega) | (simp; done) | fail "sml")) _)); first | done | fail "chs")).mono (by have := HBA.out.size; omega))) (by simp; have := HBA.out.size; omega) (by omega) (by simp)).mono ?_
      rintro en w5 ⟨v5, F5, rfl, ho5, hf5, hb5⟩
      have k5 : Below wr.heap.size wr w5 := (show Below wr.heap.size wr _ by ((repeat (first | with_reducible assumption | with_reducible exact Below.refl _ _ | refine Below.setCell ?_ (by (first | omega | (simp; omega) | (simp; done) | fail "sml")) _ | refine Below.drew ?_ | refine Below.alloc ?_ (by (first | omega | (simp; omega) | (simp; done) | fail "sml")) _)); first | done | fail "chs")).trans (hb5.mono (by simp; omega))
      have hs5 := k5.size
      have HF5 := Lib.hid (show ∀ x ∈ F5, wr.heap.size ≤ x from fun x hx => by have := hf5 x hx; simp at this; omega)
      have HO5 := Lib.hid ho5
      obtain ⟨p5, c5, rfl⟩ := ho5.sl.form
      clear ho5 hf5 hb5
      go_wp2_with fail
      refine hK.out _ _ (HK.out _ k5) (fun hHeld => ?_)
      clear hK K
      (try simp only [Act.put, List.setIfInBounds_toArray, List.set_cons_zero, List.set_cons_succ])
      refine oneE (i := 5) rfl (by kernel_rfl) (by kernel_rfl) (fun K hK => ?_)
      go_simp
      refine hK.out _ _ (HK.out _ (show Below wr.heap.size wr _ by ((repeat (first | with_reducible assumption | with_reducible exact Below.refl _ _ | refine Below.setCell ?_ (by (first | omega | (simp; omega) | (simp; done) | fail "sml")) _ | refine Below.drew ?_ | refine Below.alloc ?_ (by (first | omega | (simp; omega) | (simp; done) | fail "sml")) _)); first | done | fail "chs"))) (fun hHeld => ?_)
      clear hK K
      (try simp only [Act.put, List.setIfInBounds_toArray, List.set_cons_zero, List.set_cons_succ])
      refine oneE (i := 6) rfl (by kernel_rfl) (by kernel_rfl) (fun K hK => ?_)
      have HAPP := HTA.out.app (E := w5.alloc (.cells #[.slice p5 y.length c5] 23)) (show Below wr.heap.size wr _ by ((repeat (first | with_reducible assumption | with_reducible exact Below.refl _ _ | refine Below.setCell ?_ (by (first | omega | (simp; omega) | (simp; done) | fail "sml")) _ | refine Below.drew ?_ | refine Below.alloc ?_ (by (first | omega | (simp; omega) | (simp; done) | fail "sml")) _)); first | done | fail "chs")) 31 y p5 c5 F5 w5.heap.size 1 (HO5.out.below ((Below.refl _ _).alloc (Nat.le_refl _) _)) HF5.out (by simp [go_sem]) HTK.out
      refine wp_app (.tmp 20) (.tmp 24) 31 (by rfl) _ _ (by rfl) (by rfl) _ HAPP ?_
      rintro v' w' ⟨⟨e0, e1, e2, e3⟩, hT6, hb6⟩
      have HT6 := Lib.hid (show TAcc cs (rs.take (k + 1)) kb (w.heap.size + 1) (.slice p2 cs.length c2) v' (w'.setCell ⟨kb, 1, none⟩ v') from by rw [htk.out]; exact hT6)
      have HB6 := Lib.hid (HBW.out.trans hb6)
      obtain ⟨_, _, q6, c6, _, hvf⟩ := HT6.out.form
      rw [List.length_take, Nat.min_eq_left (show k + 1 ≤ rs.length by omega)] at hvf
      subst hvf
      clear hT6 hb6 HAPP
      refine hK.out _ _ e1 (fun hHeld => ?_)
      clear hK K
      (try simp only [Act.put, List.setIfInBounds_toArray, List.set_cons_zero, List.set_cons_succ])
      (refine takeE (i := 7) (v := ?_) [] rfl (by kernel_rfl) (by kernel_rfl) (fun _ _ _ h => h) (Or.inl ⟨by kernel_rfl, ?_⟩) (by assumption) ?_; rotate_left; (focus (intro w hSw; (try dsimp only at hSw); go_simp; first | done | with_reducible rfl | fail "takeE")); (try simp only [Act.put, List.setIfInBounds_toArray, List.set_cons_zero, List.set_cons_succ]))
      refine lastE rfl (by kernel_rfl) (by kernel_rfl) (fun K hK => ?_)
      go_simp
      refine hK.out _ _ ?_
      clear hK K
      refine doneE (by kernel_rfl) ?_ _
      go_wp2_with fail
      go_roundw
      case rel => exact ⟨k + 1, _, by omega, by go_num, HT6, HB6⟩
      case measure => simp [intOf]; omega
    · obtain rfl : k = rs.length := by omega
      have HTE := Lib.hid (show TAcc cs rs kb (w.heap.size + 1) (.slice p2 cs.length c2) b wr by have := HTA.out; rwa [List.take_length] at this)
      clear HTA
      go_wp2_with fail
      obtain ⟨FT, hH, hFT⟩ := HTE.out.has
      have HH := Lib.hid hH
      have HFT := Lib.hid hFT
      clear hH hFT
      refine (tableValid_any ⟨cs, rs⟩ _ wr.heap.size wr HH.out.at (Nat.le_refl _) HOK.out).mono ?_
      rintro en w7 ⟨rfl, hb7⟩
      obtain ⟨hr0, ⟨hr1, hr2⟩, hr3, hr4⟩ := HRES.out w7 ((HR3.out.trans HBW.out).trans (hb7.mono (by omega)))
      have HH7 := Lib.hid (HH.out.below hb7)
      have y0 := keepc hb7 hkl2 x0
      have y1 := keepc hb7 hkl2 x1
      have HB7 := Lib.hid (HBA.out.trans (hb7.mono (by have := HBA.out.size; omega)))
      obtain ⟨_, _, qb, cb, _, rfl⟩ := HTE.out.form
      rw [← HT.out]
      clear hb7 x0 x1
      cases T with
      | false =>
        have HRR := HR.out
        simp only [Bool.false_eq_true, if_false] at HRR
        subst HRR
        go_wp2_with fail
        exact bodyPost_ret (v := .tuple #[.agg #[.slice none 0 0, .slice none 0 0], .bool false]) (by simp [results, Try.results57, go_sem, hr1, hr2]) rfl (TbPost.no ((HB7.out.setCell (by simp) _).setCell (by simp) _))
      | true =>
        have HRR := HR.out
        simp only [if_true] at HRR
        subst HRR
        go_wp2_with fail
        exact bodyPost_ret (v := .tuple #[.agg #[.slice p2 cs.length c2, .slice qb rs.length cb], .bool true]) (by simp [results, Try.results57, go_sem, hr1, hr2]) rfl ⟨_, FT, rfl, HH7.out.chg (G := [w.heap.size]) (((Chg.refl _ _).setCell (by simp) _).setCell (by simp) _) (fun y hy => by have := (HFT.out y hy).1; simp; omega), fun y hy => by have := (HFT.out y hy).1; omega, (HB7.out.setCell (by simp) _).setCell (by simp) _⟩
end Go.Proofs.Ytfdkmngkpihpbaa
