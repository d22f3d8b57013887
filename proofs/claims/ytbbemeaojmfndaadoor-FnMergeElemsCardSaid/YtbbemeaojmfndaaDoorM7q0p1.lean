/- Lemmas on the data and the memory of this program's values: several texts in one. -/
import Derived.Test.YtbbemeaojmfndaaDoorL2K
import Derived.Test.YtbbemeaojmfndaaDoorElV
import Derived.Test.YtbbemeaojmfndaaDoorFitsI
import Derived.Test.YtbbemeaojmfndaaDoorM6q0p1
import Derived.Test.YtbbemeaojmfndaaDoorM5q0p1
import Derived.Test.YtbbemeaojmfndaaDoorMgI
import Derived.Test.YtbbemeaojmfndaaDoorMgS
import Derived.Test.YtbbemeaojmfndaaDoorElSame
namespace Go.Proofs.YtbbemeaojmfndaaDoor
open Go.RowKit

/-- The cells of an element in the variable in block b. -/
def ElC (n : Bool) (v : ByteArray) (lo : Int) (la : ByteArray) (lk : Value) (co : Int) (ca : ByteArray) (ck : Value) (d : Int) (b : Nat) (w : World) : Prop :=
  (w.cell? ⟨b, 0, none⟩ = some (.bool n) ∧ w.cell? ⟨b, 1, none⟩ = some (.string v) ∧ w.cell? ⟨b, 2, none⟩ = some (.int .i64 lo) ∧ w.cell? ⟨b, 3, none⟩ = some (.string la) ∧ w.cell? ⟨b, 4, none⟩ = some lk ∧
    w.cell? ⟨b, 5, none⟩ = some (.int .i64 co) ∧ w.cell? ⟨b, 6, none⟩ = some (.string ca) ∧ w.cell? ⟨b, 7, none⟩ = some ck ∧ w.cell? ⟨b, 8, none⟩ = some (.int .i64 d)) ∧ (∀ i, w.frozen? ⟨b, i, none⟩ = false) ∧ b < w.heap.size
section
variable {n : Bool} {v : ByteArray} {lo : Int} {la : ByteArray} {lk : Value} {co : Int} {ca : ByteArray} {ck : Value} {d : Int} {b : Nat} {w : World}
theorem ElC.new (T : TypeId) : ElC n v lo la lk co ca ck d w.heap.size (w.alloc (.cells #[.bool n, .string v, .int .i64 lo, .string la, lk, .int .i64 co, .string ca, ck, .int .i64 d] T)) :=
  ⟨⟨cellsAt 0, cellsAt 1, cellsAt 2, cellsAt 3, cellsAt 4, cellsAt 5, cellsAt 6, cellsAt 7, cellsAt 8⟩, fun _ => World.frozen?_alloc_at _ _ _ _ rfl, by simp⟩
theorem ElC.chg {G : List Nat} {w' : World} (h : ElC n v lo la lk co ca ck d b w) (hc : Chg G w w') (hG : b ∉ G) : ElC n v lo la lk co ca ck d b w' := by
  obtain ⟨⟨h0, h1, h2, h3, h4, h5, h6, h7, h8⟩, hz, hl⟩ := h
  exact ⟨⟨hc.cellOf hG h0, hc.cellOf hG h1, hc.cellOf hG h2, hc.cellOf hG h3, hc.cellOf hG h4, hc.cellOf hG h5, hc.cellOf hG h6, hc.cellOf hG h7, hc.cellOf hG h8⟩, fun i => hc.frozenOf hG hl (hz i), Nat.lt_of_lt_of_le hl hc.size⟩
theorem ElC.fz {i : Nat} (h : ElC n v lo la lk co ca ck d b w) : w.frozen? ⟨b, i, none⟩ = false := h.2.1 i
theorem ElC.setD (h : ElC n v lo la lk co ca ck d b w) (d' : Int) : ElC n v lo la lk co ca ck d' b (w.setCell ⟨b, 8, none⟩ (.int .i64 d')) := by
  obtain ⟨⟨h0, h1, h2, h3, h4, h5, h6, h7, h8⟩, hz, hl⟩ := h
  have N := fun (i : Nat) (hi : (8 : Nat) ≠ i) => set_near w b 8 (.int .i64 d') i hi
  exact ⟨⟨(N _ (by decide)).trans h0, (N _ (by decide)).trans h1, (N _ (by decide)).trans h2, (N _ (by decide)).trans h3, (N _ (by decide)).trans h4, (N _ (by decide)).trans h5, (N _ (by decide)).trans h6, (N _ (by decide)).trans h7, set_same _ _ _ _ _ h8⟩, fun i => by simpa [go_sem] using hz i, by simpa using hl⟩
theorem ElC.setV (h : ElC n v lo la lk co ca ck d b w) (v' : ByteArray) : ElC n v' lo la lk co ca ck d b (w.setCell ⟨b, 1, none⟩ (.string v')) := by
  obtain ⟨⟨h0, h1, h2, h3, h4, h5, h6, h7, h8⟩, hz, hl⟩ := h
  have N := fun (i : Nat) (hi : (1 : Nat) ≠ i) => set_near w b 1 (.string v') i hi
  exact ⟨⟨(N _ (by decide)).trans h0, set_same _ _ _ _ _ h1, (N _ (by decide)).trans h2, (N _ (by decide)).trans h3, (N _ (by decide)).trans h4, (N _ (by decide)).trans h5, (N _ (by decide)).trans h6, (N _ (by decide)).trans h7, (N _ (by decide)).trans h8⟩, fun i => by simpa [go_sem] using hz i, by simpa using hl⟩
theorem ElC.setN (h : ElC n v lo la lk co ca ck d b w) (n' : Bool) : ElC n' v lo la lk co ca ck d b (w.setCell ⟨b, 0, none⟩ (.bool n')) := by
  obtain ⟨⟨h0, h1, h2, h3, h4, h5, h6, h7, h8⟩, hz, hl⟩ := h
  have N := fun (i : Nat) (hi : (0 : Nat) ≠ i) => set_near w b 0 (.bool n') i hi
  exact ⟨⟨set_same _ _ _ _ _ h0, (N _ (by decide)).trans h1, (N _ (by decide)).trans h2, (N _ (by decide)).trans h3, (N _ (by decide)).trans h4, (N _ (by decide)).trans h5, (N _ (by decide)).trans h6, (N _ (by decide)).trans h7, (N _ (by decide)).trans h8⟩, fun i => by simpa [go_sem] using hz i, by simpa using hl⟩
theorem near3 (w : World) (b o : Nat) (x y z : Value) (i : Nat) (h : i ≠ o ∧ i ≠ o + 1 ∧ i ≠ o + 2) : (((w.setCell ⟨b, o, none⟩ x).setCell ⟨b, o + 1, none⟩ y).setCell ⟨b, o + 2, none⟩ z).cell? ⟨b, i, none⟩ = w.cell? ⟨b, i, none⟩ :=
  (set_near _ _ _ _ _ (by omega)).trans ((set_near _ _ _ _ _ (by omega)).trans (set_near _ _ _ _ _ (by omega)))
theorem ElC.setL (h : ElC n v lo la lk co ca ck d b w) (lo' : Int) (la' : ByteArray) (lk' : Value) : ElC n v lo' la' lk' co ca ck d b (((w.setCell ⟨b, 2, none⟩ (.int .i64 lo')).setCell ⟨b, 3, none⟩ (.string la')).setCell ⟨b, 4, none⟩ lk') := by
  obtain ⟨⟨h0, h1, h2, h3, h4, h5, h6, h7, h8⟩, hz, hl⟩ := h
  have N := near3 w b 2 (.int .i64 lo') (.string la') lk'
  obtain ⟨_, g0, g1, g2, _, gz⟩ := store3 (y0 := .int .i64 lo') (y1 := .string la') (y2 := lk') h2 h3 h4 hz
  exact ⟨⟨(N _ (by decide)).trans h0, (N _ (by decide)).trans h1, g0, g1, g2, (N _ (by decide)).trans h5, (N _ (by decide)).trans h6, (N _ (by decide)).trans h7, (N _ (by decide)).trans h8⟩, gz, by simpa using hl⟩
theorem ElC.setC (h : ElC n v lo la lk co ca ck d b w) (co' : Int) (ca' : ByteArray) (ck' : Value) : ElC n v lo la lk co' ca' ck' d b (((w.setCell ⟨b, 5, none⟩ (.int .i64 co')).setCell ⟨b, 6, none⟩ (.string ca')).setCell ⟨b, 7, none⟩ ck') := by
  obtain ⟨⟨h0, h1, h2, h3, h4, h5, h6, h7, h8⟩, hz, hl⟩ := h
  have N := near3 w b 5 (.int .i64 co') (.string ca') ck'
  obtain ⟨_, g0, g1, g2, _, gz⟩ := store3 (y0 := .int .i64 co') (y1 := .string ca') (y2 := ck') h5 h6 h7 hz
  exact ⟨⟨(N _ (by decide)).trans h0, (N _ (by decide)).trans h1, (N _ (by decide)).trans h2, (N _ (by decide)).trans h3, (N _ (by decide)).trans h4, g0, g1, g2, (N _ (by decide)).trans h8⟩, gz, by simpa using hl⟩
end
/-- An element in the making: its cells in the variable in block b, its parts in memory of the call's own, from lo on. -/
def ElM (x : El) (p : Option Addr) (c : Nat) (p' : Option Addr) (c' : Nat) (k b lo : Nat) (w : World) : Prop :=
  ElC x.n x.v x.l.op x.l.a (.slice p x.l.ks.list.length c) x.c.op x.c.a (.slice p' x.c.ks.list.length c') x.d b w ∧
    (x.v.size ≤ 100 ∧ x.l.Dn k ∧ x.c.Dn k ∧ -1000 ≤ x.d ∧ x.d ≤ 1000) ∧
    ∃ F1 F2, (x.l.ks.Own w (.slice p x.l.ks.list.length c) F1 ∧ x.c.ks.Own w (.slice p' x.c.ks.list.length c') F2) ∧ (∀ z ∈ F1, lo ≤ z ∧ z ≠ b) ∧ (∀ z ∈ F2, lo ≤ z ∧ z ≠ b) ∧ ∀ z ∈ F1, z ∉ F2
def noX : Ex := ⟨0, ⟨#[]⟩, .nil⟩
theorem noX_dn (k : Nat) : noX.Dn k := ⟨by decide, trivial, Nat.zero_le _⟩
section
variable {x : El} {p : Option Addr} {c : Nat} {p' : Option Addr} {c' : Nat} {k b lo : Nat} {w : World}
theorem ElM.lt (h : ElM x p c p' c' k b lo w) : b < w.heap.size := h.1.2.2
theorem ElM.chg {G : List Nat} {w' : World} (h : ElM x p c p' c' k b lo w) (hc : Chg G w w') (hG : ∀ y ∈ G, y < lo ∧ y ≠ b) : ElM x p c p' c' k b lo w' := by
  obtain ⟨h1, h2, F1, F2, ⟨h3, h4⟩, h5, h6, h7⟩ := h
  exact ⟨h1.chg hc (fun hm => (hG b hm).2 rfl), h2, F1, F2, ⟨h3.chg hc (fun z hz hm => by have := h5 z hz; have := hG z hm; omega), h4.chg hc (fun z hz hm => by have := h6 z hz; have := hG z hm; omega)⟩, h5, h6, h7⟩
theorem ElM.new {v : ByteArray} {n : Bool} (hv : v.size ≤ 100) (T : TypeId) :
    ElM ⟨n, v, noX, noX, 0⟩ none 0 none 0 k w.heap.size lo (w.alloc (.cells #[.bool n, .string v, .int .i64 0, .string ⟨#[]⟩, .slice none 0 0, .int .i64 0, .string ⟨#[]⟩, .slice none 0 0, .int .i64 0] T)) :=
  ⟨ElC.new T, ⟨hv, noX_dn k, noX_dn k, (by decide : (-1000 : Int) ≤ 0), (by decide : (0 : Int) ≤ 1000)⟩, [], [], ⟨Fo.Own.empty _, Fo.Own.empty _⟩, by simp, by simp, by simp⟩
theorem ElM.one {o : Nat} {y : Value} (h : ElM x p c p' c' k b lo w) : ∃ F1 F2, (x.l.ks.Own (w.setCell ⟨b, o, none⟩ y) (.slice p x.l.ks.list.length c) F1 ∧ x.c.ks.Own (w.setCell ⟨b, o, none⟩ y) (.slice p' x.c.ks.list.length c') F2) ∧ (∀ z ∈ F1, lo ≤ z ∧ z ≠ b) ∧ (∀ z ∈ F2, lo ≤ z ∧ z ≠ b) ∧ ∀ z ∈ F1, z ∉ F2 := by
  obtain ⟨h1, h2, F1, F2, ⟨h3, h4⟩, h5, h6, h7⟩ := h
  have kx : Chg [b] w (w.setCell ⟨b, o, none⟩ y) := (Chg.refl _ _).setCell (by simp) _
  exact ⟨F1, F2, ⟨h3.chg kx (fun z hz hm => (h5 z hz).2 (by simpa using hm)), h4.chg kx (fun z hz hm => (h6 z hz).2 (by simpa using hm))⟩, h5, h6, h7⟩
theorem ElM.setD (h : ElM x p c p' c' k b lo w) {d : Int} (h1 : -1000 ≤ d) (h2 : d ≤ 1000) : ElM { x with d := d } p c p' c' k b lo (w.setCell ⟨b, 8, none⟩ (.int .i64 d)) :=
  ⟨h.1.setD d, ⟨h.2.1.1, h.2.1.2.1, h.2.1.2.2.1, h1, h2⟩, h.one⟩
theorem ElM.setV (h : ElM x p c p' c' k b lo w) {v : ByteArray} (h1 : v.size ≤ 100) : ElM { x with v := v } p c p' c' k b lo (w.setCell ⟨b, 1, none⟩ (.string v)) :=
  ⟨h.1.setV v, ⟨h1, h.2.1.2⟩, h.one⟩
theorem ElM.setN (h : ElM x p c p' c' k b lo w) (n : Bool) : ElM { x with n := n } p c p' c' k b lo (w.setCell ⟨b, 0, none⟩ (.bool n)) :=
  ⟨h.1.setN n, h.2.1, h.one⟩
/-- New labels: memory that is new since a world w0. -/
theorem ElM.setL {y : Ex} {q : Option Addr} {cq k' : Nat} {G : List Nat} (h : ElM x p c p' c' k b lo w) (hy : y.ks.Own w (.slice q y.ks.list.length cq) G) (hd : y.Dn k') (hk : k ≤ k') (w0 : World) (hG : ∀ z ∈ G, w0.heap.size ≤ z) (hlo : lo ≤ w0.heap.size) (hb : b < w0.heap.size)
    (hold : ElM x p c p' c' k b lo w0) (hsame : Chg [] w0 w ∨ ∃ a, Chg [a] w0 w ∧ a < lo ∧ a ≠ b) :
    ElM { x with l := y } q cq p' c' k' b lo (((w.setCell ⟨b, 2, none⟩ (.int .i64 y.op)).setCell ⟨b, 3, none⟩ (.string y.a)).setCell ⟨b, 4, none⟩ (.slice q y.ks.list.length cq)) := by
  obtain ⟨_, _, F1, F2, ⟨h3, h4⟩, h5, h6, h7⟩ := hold
  have kx : Chg [b] w (((w.setCell ⟨b, 2, none⟩ (.int .i64 y.op)).setCell ⟨b, 3, none⟩ (.string y.a)).setCell ⟨b, 4, none⟩ (.slice q y.ks.list.length cq)) := (((Chg.refl _ _).setCell (by simp) _).setCell (by simp) _).setCell (by simp) _
  have l4 := h4.lt
  have h4' : x.c.ks.Own w (.slice p' x.c.ks.list.length c') F2 := by
    rcases hsame with hs | ⟨a, hs, ha, hab⟩
    · exact h4.chg hs (by simp)
    · exact h4.chg hs (fun z hz hm => by have := h6 z hz; simp at hm; omega)
  refine ⟨h.1.setL _ _ _, ⟨h.2.1.1, hd, h.2.1.2.2.1.mono hk, h.2.1.2.2.2⟩, G, F2, ⟨hy.chg kx (fun z hz hm => ?_), h4'.chg kx (fun z hz hm => (h6 z hz).2 (by simpa using hm))⟩, fun z hz => ?_, h6, fun z hz hm => ?_⟩
  · have := hG z hz; simp at hm; omega
  · have := hG z hz; omega
  · have := hG z hz; have := l4 z hm; omega
theorem ElM.setC {y : Ex} {q : Option Addr} {cq k' : Nat} {G : List Nat} (h : ElM x p c p' c' k b lo w) (hy : y.ks.Own w (.slice q y.ks.list.length cq) G) (hd : y.Dn k') (hk : k ≤ k') (w0 : World) (hG : ∀ z ∈ G, w0.heap.size ≤ z) (hlo : lo ≤ w0.heap.size) (hb : b < w0.heap.size)
    (hold : ElM x p c p' c' k b lo w0) (hsame : Chg [] w0 w ∨ ∃ a, Chg [a] w0 w ∧ a < lo ∧ a ≠ b) :
    ElM { x with c := y } p c q cq k' b lo (((w.setCell ⟨b, 5, none⟩ (.int .i64 y.op)).setCell ⟨b, 6, none⟩ (.string y.a)).setCell ⟨b, 7, none⟩ (.slice q y.ks.list.length cq)) := by
  obtain ⟨_, _, F1, F2, ⟨h3, h4⟩, h5, h6, h7⟩ := hold
  have kx : Chg [b] w (((w.setCell ⟨b, 5, none⟩ (.int .i64 y.op)).setCell ⟨b, 6, none⟩ (.string y.a)).setCell ⟨b, 7, none⟩ (.slice q y.ks.list.length cq)) := (((Chg.refl _ _).setCell (by simp) _).setCell (by simp) _).setCell (by simp) _
  have l3 := h3.lt
  have h3' : x.l.ks.Own w (.slice p x.l.ks.list.length c) F1 := by
    rcases hsame with hs | ⟨a, hs, ha, hab⟩
    · exact h3.chg hs (by simp)
    · exact h3.chg hs (fun z hz hm => by have := h5 z hz; simp at hm; omega)
  refine ⟨h.1.setC _ _ _, ⟨h.2.1.1, h.2.1.2.1.mono hk, hd, h.2.1.2.2.2⟩, F1, G, ⟨h3'.chg kx (fun z hz hm => (h5 z hz).2 (by simpa using hm)), hy.chg kx (fun z hz hm => ?_)⟩, h5, fun z hz => ?_, fun z hz hm => ?_⟩
  · have := hG z hz; simp at hm; omega
  · have := hG z hz; omega
  · have := l3 z hz; have := hG z hm; omega
end
theorem ElM.kmono {x : El} {p : Option Addr} {c : Nat} {p' : Option Addr} {c' : Nat} {k k' b lo : Nat} {w : World} (h : ElM x p c p' c' k b lo w) (hk : k ≤ k') : ElM x p c p' c' k' b lo w :=
  ⟨h.1, ⟨h.2.1.1, h.2.1.2.1.mono hk, h.2.1.2.2.1.mono hk, h.2.1.2.2.2⟩, h.2.2⟩
theorem ElM.label {x : El} {p : Option Addr} {c : Nat} {p' : Option Addr} {c' : Nat} {k b lo : Nat} {w : World} (h : ElM x p c p' c' k b lo w) : x.l.ks.In w.heap.size w (.slice p x.l.ks.list.length c) ∧ x.l.Dn k := by
  obtain ⟨_, h2, F1, F2, ⟨h3, _⟩, _⟩ := h
  exact ⟨h3.in, h2.2.1⟩
/-- A variable that was made now, of an element in the call's own memory. -/
theorem ElM.of_has {x : El} {u : Value} {F : List Nat} {lo k : Nat} {w : World} {p : Option Addr} {c : Nat} {p' : Option Addr} {c' : Nat} (h : x.Has u F w) (hu : u = .agg #[.bool x.n, .string x.v, .int .i64 x.l.op, .string x.l.a, .slice p x.l.ks.list.length c, .int .i64 x.c.op, .string x.c.a, .slice p' x.c.ks.list.length c', .int .i64 x.d]) (hF : ∀ z ∈ F, lo ≤ z) (hd : x.v.size ≤ 100 ∧ x.l.Dn k ∧ x.c.Dn k ∧ -1000 ≤ x.d ∧ x.d ≤ 1000) (T : TypeId) :
    ElM x p c p' c' k w.heap.size lo (w.alloc (.cells #[.bool x.n, .string x.v, .int .i64 x.l.op, .string x.l.a, .slice p x.l.ks.list.length c, .int .i64 x.c.op, .string x.c.a, .slice p' x.c.ks.list.length c', .int .i64 x.d] T)) := by
  obtain ⟨k1, k2, F1, F2, rfl, rfl, h2, h3, h4⟩ := h
  cases hu
  have l3 := h3.lt
  have l4 := h4.lt
  have kx : Chg [] w (w.alloc (.cells #[.bool x.n, .string x.v, .int .i64 x.l.op, .string x.l.a, .slice p x.l.ks.list.length c, .int .i64 x.c.op, .string x.c.a, .slice p' x.c.ks.list.length c', .int .i64 x.d] T)) := (Chg.refl _ _).alloc _
  exact ⟨ElC.new T, hd, F1, F2, ⟨h3.chg kx (by simp), h4.chg kx (by simp)⟩, fun z hz => ⟨hF z (List.mem_append_left _ hz), by have := l3 z hz; omega⟩, fun z hz => ⟨hF z (List.mem_append_right _ hz), by have := l4 z hz; omega⟩, h2⟩
/-- A drawn element in memory of the call's own. -/
def EDr (x : El) (p : Option Addr) (c : Nat) (p' : Option Addr) (c' : Nat) (k lo : Nat) (w : World) : Prop :=
  (x.v.size ≤ 100 ∧ x.l.Dn k ∧ x.c.Dn k ∧ -1000 ≤ x.d ∧ x.d ≤ 1000) ∧ ∃ F1 F2, (x.l.ks.Own w (.slice p x.l.ks.list.length c) F1 ∧ x.c.ks.Own w (.slice p' x.c.ks.list.length c') F2) ∧ (∀ z ∈ F1, lo ≤ z) ∧ (∀ z ∈ F2, lo ≤ z) ∧ ∀ z ∈ F1, z ∉ F2
def elV (x : El) (p : Option Addr) (c : Nat) (p' : Option Addr) (c' : Nat) : Value := .agg #[.bool x.n, .string x.v, .int .i64 x.l.op, .string x.l.a, .slice p x.l.ks.list.length c, .int .i64 x.c.op, .string x.c.a, .slice p' x.c.ks.list.length c', .int .i64 x.d]
section
variable {x : El} {p : Option Addr} {c : Nat} {p' : Option Addr} {c' : Nat} {k lo : Nat} {w : World}
theorem EDr.chg {G : List Nat} {w' : World} (h : EDr x p c p' c' k lo w) (hc : Chg G w w') (hG : ∀ y ∈ G, y < lo) : EDr x p c p' c' k lo w' := by
  obtain ⟨h2, F1, F2, ⟨h3, h4⟩, h5, h6, h7⟩ := h
  exact ⟨h2, F1, F2, ⟨h3.chg hc (fun z hz hm => by have := h5 z hz; have := hG z hm; omega), h4.chg hc (fun z hz hm => by have := h6 z hz; have := hG z hm; omega)⟩, h5, h6, h7⟩
theorem EDr.low {lo' : Nat} (h : EDr x p c p' c' k lo w) (hl : lo' ≤ lo) : EDr x p c p' c' k lo' w := by
  obtain ⟨h2, F1, F2, h3, h5, h6, h7⟩ := h
  exact ⟨h2, F1, F2, h3, fun z hz => Nat.le_trans hl (h5 z hz), fun z hz => Nat.le_trans hl (h6 z hz), h7⟩
theorem EDr.at (h : EDr x p c p' c' k lo w) : x.At w.heap.size w (elV x p c p' c') := by
  obtain ⟨h2, F1, F2, ⟨h3, h4⟩, _⟩ := h
  exact ⟨_, _, rfl, h3.in, h4.in⟩
theorem EDr.sm (h : EDr x p c p' c' k lo w) : x.Sm := ⟨by have := h.1.1; omega, by have := h.1.2.1.1.2.2; omega, h.1.2.1.2.1.sm, by have := h.1.2.2.1.1.2.2; omega, h.1.2.2.1.2.1.sm⟩
theorem EDr.has (h : EDr x p c p' c' k lo w) : ∃ F, x.Has (elV x p c p' c') F w := by
  obtain ⟨_, F1, F2, ⟨h3, h4⟩, h5, h6, h7⟩ := h
  exact ⟨F1 ++ F2, _, _, F1, F2, rfl, rfl, h7, h3, h4⟩
end
theorem ElM.dr {x : El} {p : Option Addr} {c : Nat} {p' : Option Addr} {c' : Nat} {k b lo : Nat} {w : World} (h : ElM x p c p' c' k b lo w) : EDr x p c p' c' k lo w := by
  obtain ⟨h1, h2, F1, F2, h3, h5, h6, h7⟩ := h
  exact ⟨h2, F1, F2, h3, fun z hz => (h5 z hz).1, fun z hz => (h6 z hz).1, h7⟩
def store9 (E : World) (r : Nat) (x : El) (p : Option Addr) (c : Nat) (p' : Option Addr) (c' : Nat) : World :=
  ((((((((E.setCell ⟨r, 0, none⟩ (.bool x.n)).setCell ⟨r, 1, none⟩ (.string x.v)).setCell ⟨r, 2, none⟩ (.int .i64 x.l.op)).setCell ⟨r, 3, none⟩ (.string x.l.a)).setCell ⟨r, 4, none⟩ (.slice p x.l.ks.list.length c)).setCell ⟨r, 5, none⟩ (.int .i64 x.c.op)).setCell ⟨r, 6, none⟩ (.string x.c.a)).setCell ⟨r, 7, none⟩ (.slice p' x.c.ks.list.length c')).setCell ⟨r, 8, none⟩ (.int .i64 x.d)
theorem store9_chg {E : World} {r : Nat} {x : El} {p : Option Addr} {c : Nat} {p' : Option Addr} {c' : Nat} : Chg [r] E (store9 E r x p c p' c') :=
  ((((((((((Chg.refl _ _).setCell (by simp) _).setCell (by simp) _).setCell (by simp) _).setCell (by simp) _).setCell (by simp) _).setCell (by simp) _).setCell (by simp) _).setCell (by simp) _).setCell (by simp) _)
/-- What l3Some and l3Wrong answer. -/
def SomeE (k n a N : Nat) (w : World) (e : Ending) (w' : World) : Prop :=
  ∃ (x : El) (p : Option Addr) (c : Nat) (p' : Option Addr) (c' : Nat), e = .returned (.agg #[.bool x.n, .string x.v, .int .i64 x.l.op, .string x.l.a, .slice p x.l.ks.list.length c, .int .i64 x.c.op, .string x.c.a, .slice p' x.c.ks.list.length c', .int .i64 x.d]) ∧
    EDr x p c p' c' k w.heap.size w' ∧ Dr w' a (N + n) ∧ Chg [a] w w'
theorem SomeE.fin {x : El} {p : Option Addr} {c : Nat} {p' : Option Addr} {c' : Nat} {k n a N r b lo : Nat} {w W1 E : World} (h : ElM x p c p' c' k b lo E) (h1 : Chg [] w W1) (hr : w.heap.size ≤ r) (hrl : r < lo) (hal : a < w.heap.size) (hd : Dr E a (N + n)) (hc : Chg [a] W1 E) :
    SomeE k n a N w (.returned (elV x p c p' c')) (store9 E r x p c p' c') :=
  ⟨x, p, c, p', c', rfl, (h.dr.chg store9_chg (by simpa using hrl)).low (by omega), hd.chg store9_chg (by simp; omega), ((h1.mono (by simp)).trans hc).past store9_chg (by simpa using .inr hr)⟩
end Go.Proofs.YtbbemeaojmfndaaDoor
namespace Go.Proofs.YtbbemeaojmfndaaDoor
open Go.RowKit

theorem hn_big' {k : Nat} {n : Int} (h : (k : Int) ≤ n) : hn k n = false := by unfold hn; rw [decide_eq_false (p := n < (k : Int)) (by omega)]; simp
theorem elemV_parts' {e : El} (h : elemV e = true) : partV 1 e.l = true ∧ partV 2 e.c = true := by
  unfold elemV at h
  simp only [Bool.and_eq_true] at h
  exact h.2.2
theorem part_none {kind : Int} {e : Ex} (h : partV kind e = true) (ho : e.op = 0) : exNone e = true := by
  unfold partV at h
  simp only [Bool.or_eq_true] at h
  rcases h with h | h
  · exact h
  · exact absurd ho (exV_op h)
theorem part_some {e : Ex} (ho : e.op ≠ 0) : exNone e = false := by unfold exNone noneB; rw [decide_eq_false ho]; rfl
theorem labF_none {e : Ex} {s : ByteArray} (h : partV 1 e = true) (ho : e.op = 0) : labF e s = true := by unfold labF; rw [part_none h ho]; rfl
theorem labF_some {e : Ex} {s : ByteArray} (ho : e.op ≠ 0) : labF e s = lholds e s := by unfold labF; rw [part_some ho]; rfl
theorem numF_none {e : Ex} {m : Int} (h : partV 2 e = true) (ho : e.op = 0) : numF e m = true := by unfold numF; rw [part_none h ho]; rfl
theorem numF_some {e : Ex} {m : Int} (ho : e.op ≠ 0) : numF e m = nholds e m := by unfold numF; rw [part_some ho]; rfl
/-- The element of nodes without anything. -/
def emN : El := ⟨true, ⟨#[]⟩, noX, noX, 0⟩
theorem emN_at (B : Nat) (w : World) : emN.At B w (.agg #[.bool true, .string ⟨#[]⟩, .int .i64 0, .string ⟨#[]⟩, .slice none 0 0, .int .i64 0, .string ⟨#[]⟩, .slice none 0 0, .int .i64 0]) :=
  ⟨_, _, rfl, ⟨none, 0, rfl, Nat.le_refl _, Nat.zero_le _, .inl rfl⟩, ⟨none, 0, rfl, Nat.le_refl _, Nat.zero_le _, .inl rfl⟩⟩
theorem emN_sm : emN.Sm := ⟨by decide, by decide, trivial, by decide, trivial⟩
theorem nodeF_emN {g : Gr} {k : Nat} (h : gv g = true) (hk : k < g.ns.length) : nodeF g (k : Int) emN = true := by
  unfold nodeF
  rw [h, hn_at hk]
  rfl
theorem El.At.cnd {e : El} {B : Nat} {w : World} {u : Value} (h : e.At B w u) : ∃ k, e.c.At B w (.agg #[.int .i64 e.c.op, .string e.c.a, k]) := by
  obtain ⟨k, k', h1, h2, h3⟩ := h; exact ⟨k', k', rfl, h3⟩
/-- Other variables: the element is as valid, and as many fit. -/
theorem elemV_var {n : Bool} {v v' : ByteArray} {l c : Ex} {d : Int} (h : elemV ⟨n, v, l, c, d⟩ = true) (hv : varV v' = true) : elemV ⟨n, v', l, c, d⟩ = true := by
  unfold elemV at h ⊢
  simp only [Bool.and_eq_true] at h ⊢
  exact ⟨h.1, hv, h.2.2⟩
theorem nodeF_var {g : Gr} {m : Int} {n : Bool} {v v' : ByteArray} {l c : Ex} {d : Int} (h : elemV ⟨n, v, l, c, d⟩ = true) (hv : varV v' = true) : nodeF g m ⟨n, v', l, c, d⟩ = nodeF g m ⟨n, v, l, c, d⟩ := by
  unfold nodeF
  rw [elemV_var h hv, h]
  rfl
theorem El.At.var {n : Bool} {v : ByteArray} {l c : Ex} {d : Int} {B : Nat} {w : World} {p p' : Option Addr} {c1 c2 : Nat} (h : (⟨n, v, l, c, d⟩ : El).At B w (.agg #[.bool n, .string v, .int .i64 l.op, .string l.a, .slice p l.ks.list.length c1, .int .i64 c.op, .string c.a, .slice p' c.ks.list.length c2, .int .i64 d])) (v' : ByteArray) :
    (⟨n, v', l, c, d⟩ : El).At B w (.agg #[.bool n, .string v', .int .i64 l.op, .string l.a, .slice p l.ks.list.length c1, .int .i64 c.op, .string c.a, .slice p' c.ks.list.length c2, .int .i64 d]) := by
  obtain ⟨k, k', e1, h2, h3⟩ := h
  cases e1
  exact ⟨_, _, rfl, h2, h3⟩
theorem El.Sm.var {n : Bool} {v v' : ByteArray} {l c : Ex} {d : Int} (h : (⟨n, v, l, c, d⟩ : El).Sm) (hv : v'.size ≤ 1048576) : (⟨n, v', l, c, d⟩ : El).Sm := ⟨hv, h.2⟩
end Go.Proofs.YtbbemeaojmfndaaDoor
namespace Go.Proofs.YtbbemeaojmfndaaDoor
open Go.RowKit

theorem str_none {s : ByteArray} (h : s.size = 0) : s = ⟨#[]⟩ := by
  obtain ⟨⟨l⟩⟩ := s
  have : l.length = 0 := h
  rw [List.eq_nil_of_length_eq_zero this]
theorem none_eq {e : Ex} (h : exNone e = true) : e = noX := by
  unfold exNone noneB at h
  simp only [Bool.and_eq_true, decide_eq_true_eq] at h
  obtain ⟨o, a, k⟩ := e
  obtain ⟨h1, h2, h3⟩ := h
  have e1 : o = 0 := h1
  have e2 : a = ⟨#[]⟩ := str_none h2
  have e3 : k = .nil := Fo.list_nil (List.eq_nil_of_length_eq_zero h3)
  rw [e1, e2, e3]
  rfl
theorem noX_none : exNone noX = true := rfl
theorem emp_is : (⟨#[]⟩ : ByteArray).toList.isEmpty = true := str_empty' rfl
theorem mgX_self (a : Ex) : mgX a a = a := by
  cases h : exNone a with
  | true => exact mgX_b h
  | false => exact mgX_eq h (exEq_true rfl)
theorem mgX_right (a : Ex) : mgX a noX = a := by
  cases h : exNone a with
  | true => rw [mgX_b h, none_eq h]
  | false => exact mgX_a h noX_none
theorem mgX_left (a : Ex) : mgX noX a = a := mgX_b noX_none
theorem elemV_node {a : El} (h : elemV a = true) (hn : a.n = true) : a.d = 0 := by
  unfold elemV dirV at h
  rw [hn] at h
  simp only [Bool.and_eq_true] at h
  have h1 := h.1.1
  by_cases hd : a.d = 0
  · exact hd
  · rw [decide_eq_false hd] at h1; cases h1
theorem isEmpty_eq {s : ByteArray} (h : s.toList.isEmpty = true) : s = ⟨#[]⟩ := str_none (by
  by_cases h0 : 0 < s.size
  · rw [str_nonempty'' h0] at h; cases h
  · omega)
theorem mgE_self {a : El} (h : elemV a = true) (hn : a.n = true) : mgE a a = a := by
  have hd := elemV_node h hn
  obtain ⟨n, v, l, c, d⟩ := a
  simp only at hn hd
  subst hn hd
  unfold mgE
  simp only [mgX_self, ite_self]
theorem mgE_right {a : El} (h : elemV a = true) (hn : a.n = true) : mgE a emN = a := by
  have hd := elemV_node h hn
  obtain ⟨n, v, l, c, d⟩ := a
  simp only at hn hd
  subst hn hd
  unfold mgE emN
  simp only [mgX_right]
  by_cases hv : v.toList.isEmpty = true
  · rw [if_pos hv, isEmpty_eq hv]
  · rw [if_neg hv]
theorem mgE_left {a : El} (h : elemV a = true) (hn : a.n = true) : mgE emN a = a := by
  have hd := elemV_node h hn
  obtain ⟨n, v, l, c, d⟩ := a
  simp only at hn hd
  subst hn hd
  unfold mgE emN
  simp only [mgX_left]
  rw [if_pos emp_is]
theorem emN_v : elemV emN = true := rfl
theorem merge_self {a b : El} (h : mergeB a b = true) : mergeB a a = true ∧ mergeR a a = a := by
  obtain ⟨⟨hn, hv⟩, _⟩ := mergeB_parts h
  have e : mergeB a a = true := by
    unfold mergeB
    rw [mgE_self hv hn, hn, hv, show varsT a.v a.v = true by unfold varsT; simp]
    rfl
  exact ⟨e, by rw [mergeR_yes e, mgE_self hv hn]⟩
theorem merge_right {a b : El} (h : mergeB a b = true) : mergeB a emN = true ∧ mergeR a emN = a := by
  obtain ⟨⟨hn, hv⟩, _⟩ := mergeB_parts h
  have e : mergeB a emN = true := by
    unfold mergeB
    rw [mgE_right hv hn, hn, hv, emN_v, show emN.n = true from rfl, show varsT a.v emN.v = true by unfold varsT emN; simp]
    rfl
  exact ⟨e, by rw [mergeR_yes e, mgE_right hv hn]⟩
theorem merge_left {a b : El} (h : mergeB a b = true) : mergeB emN a = true ∧ mergeR emN a = a := by
  obtain ⟨⟨hn, hv⟩, _⟩ := mergeB_parts h
  have e : mergeB emN a = true := by
    unfold mergeB
    rw [mgE_left hv hn, hn, hv, emN_v, show emN.n = true from rfl, show varsT emN.v a.v = true by unfold varsT; rw [show emN.v = ⟨#[]⟩ from rfl, emp_is]; rfl]
    rfl
  exact ⟨e, by rw [mergeR_yes e, mgE_left hv hn]⟩
theorem elemV_l {e : El} (h : elemV e = true) : partV 1 e.l = true ∧ partV 2 e.c = true := elemV_parts' h
theorem labF_mg {a b : Ex} {s : ByteArray} (h : partV 1 (mgX a b) = true) (hs : lbl s = true) : labF (mgX a b) s = (labF a s && labF b s) := by
  cases ha : exNone a with
  | true => rw [mgX_b ha]; unfold labF; rw [ha]; rfl
  | false =>
    cases hb : exNone b with
    | true => rw [mgX_a ha hb]; unfold labF; rw [hb]; simp
    | false =>
      cases he : exEq a b with
      | true =>
        have e : a = b := by unfold exEq at he; simpa using he
        rw [mgX_eq ha he, ← e]; simp
      | false =>
        rw [mgX_two ha hb he] at h ⊢
        have hx : exV 1 (twoE 4 a b) = true := by
          unfold partV at h
          simp only [Bool.or_eq_true] at h
          rcases h with h | h
          · unfold exNone noneB at h; simp at h
          · exact h
        have := (lholds_two hx hs).1
        unfold labF
        rw [show exNone (⟨4, ⟨#[]⟩, Fo.of [a, b]⟩ : Ex) = false from rfl, ha, hb]
        exact this
theorem numF_mg {a b : Ex} {n : Int} (h : partV 2 (mgX a b) = true) : numF (mgX a b) n = (numF a n && numF b n) := by
  cases ha : exNone a with
  | true => rw [mgX_b ha]; unfold numF; rw [ha]; rfl
  | false =>
    cases hb : exNone b with
    | true => rw [mgX_a ha hb]; unfold numF; rw [hb]; simp
    | false =>
      cases he : exEq a b with
      | true =>
        have e : a = b := by unfold exEq at he; simpa using he
        rw [mgX_eq ha he, ← e]; simp
      | false =>
        rw [mgX_two ha hb he] at h ⊢
        have hx : exV 2 (twoE 4 a b) = true := by
          unfold partV at h
          simp only [Bool.or_eq_true] at h
          rcases h with h | h
          · unfold exNone noneB at h; simp at h
          · exact h
        have := nholds_and (n := n) hx
        unfold numF
        rw [show exNone (⟨4, ⟨#[]⟩, Fo.of [a, b]⟩ : Ex) = false from rfl, ha, hb]
        exact this
/-- A node fits a merged element exactly if it fits both. -/
theorem nodeF_mg {g : Gr} {a b : El} {k : Nat} (h : mergeB a b = true) (hg : gv g = true) (hk : k < g.ns.length) : nodeF g (k : Int) (mergeR a b) = (nodeF g (k : Int) a && nodeF g (k : Int) b) := by
  obtain ⟨⟨an, av⟩, ⟨bn, bv⟩, _, hv⟩ := mergeB_parts h
  have hp := pv_parts (gv_nd hg hk)
  rw [mergeR_yes h]
  unfold nodeF elemF
  rw [hg, hn_at hk, av, bv, hv, an, bn, show (mgE a b).n = true from rfl, ndAt_eq hk]
  have h1 := labF_mg (elemV_l hv).1 hp.1
  have h2 := numF_mg (n := g.ns[k].n) (elemV_l hv).2
  rw [show labF (mgE a b).l g.ns[k].l = (labF a.l g.ns[k].l && labF b.l g.ns[k].l) from h1, show numF (mgE a b).c g.ns[k].n = (numF a.c g.ns[k].n && numF b.c g.ns[k].n) from h2]
  cases labF a.l g.ns[k].l <;> cases labF b.l g.ns[k].l <;> cases numF a.c g.ns[k].n <;> cases numF b.c g.ns[k].n <;> rfl
end Go.Proofs.YtbbemeaojmfndaaDoor
namespace Go.Proofs.YtbbemeaojmfndaaDoor
open Go.RowKit

theorem mergeElems_to {a b T : El} {m : Bool} (hT : mergeR a b = T) (hm : mergeB a b = m) (u u' : Value) (w : World) (ha : a.Liv w.heap.size w u) (hb : b.Liv w.heap.size w u') (hs : a.Sm) (hs' : b.Sm) (hvars : Vars w) :
    Calls Tryd.prog 8 #[u, u'] w fun en w' => ∃ v' F, en = .returned (.tuple #[v', .bool m]) ∧ T.Has v' F w' ∧ (∀ x ∈ F, w.heap.size ≤ x) ∧ Below w.heap.size w w' := by
  subst hT hm
  exact mergeElems_any a b u u' w.heap.size w ha hb (Nat.le_refl _) hs hs' hvars
theorem specMergeElems_to {a b T : El} {m : Bool} (hT : mergeR a b = T) (hm : mergeB a b = m) (u u' : Value) (w : World) (ha : a.Liv w.heap.size w u) (hb : b.Liv w.heap.size w u') (hs : a.Sm) (hs' : b.Sm) :
    Calls Tryd.prog 9 #[u, u'] w fun en w' => ∃ v' F, en = .returned (.tuple #[v', .bool m]) ∧ T.Has v' F w' ∧ (∀ x ∈ F, w.heap.size ≤ x) ∧ Below w.heap.size w w' := by
  subst hT hm
  exact specMergeElems_any a b u u' w.heap.size w ha hb (Nat.le_refl _) hs hs'
theorem elemSame_to {e : El} {u u' : Value} {B : Nat} {w : World} (hu : e.Liv B w u) (hu' : e.Liv B w u') (hB : B ≤ w.heap.size) (s : e.l.ks.size ≤ 1048576 ∧ e.c.ks.size ≤ 1048576) :
    Calls Tryd.prog 10 #[u, u'] w fun en w' => en = .returned (.bool true) ∧ Below w.heap.size w w' := by
  have h := elemSame_of e e u u' B w hu hu' hB s.1 s.2
  rw [elEq_true rfl] at h
  exact h
theorem El.Has.form {e : El} {v : Value} {F : List Nat} {w : World} (h : e.Has v F w) : ∃ p c p' c', v = .agg #[.bool e.n, .string e.v, .int .i64 e.l.op, .string e.l.a, .slice p e.l.ks.list.length c, .int .i64 e.c.op, .string e.c.a, .slice p' e.c.ks.list.length c', .int .i64 e.d] := by
  obtain ⟨k1, k2, f1, f2, e1, _, _, e4, e5⟩ := h
  obtain ⟨p1, c1, rfl⟩ := e4.in.form
  obtain ⟨p2, c2, rfl⟩ := e5.in.form
  exact ⟨_, _, _, _, e1⟩
theorem emN_liv (B : Nat) (w : World) : emN.Liv B w (.agg #[.bool true, .string ⟨#[]⟩, .int .i64 0, .string ⟨#[]⟩, .slice none 0 0, .int .i64 0, .string ⟨#[]⟩, .slice none 0 0, .int .i64 0]) :=
  ⟨_, _, rfl, ⟨none, 0, rfl, Nat.le_refl _, Nat.zero_le _, .inl rfl⟩, ⟨none, 0, rfl, Nat.le_refl _, Nat.zero_le _, .inl rfl⟩⟩
theorem mgE_sm {a b : El} (ha : a.Sm) (hb : b.Sm) : (mgE a b).Sm := by
  have h1 := mgX_sml (a := a.l) (b := b.l) ⟨ha.2.1, ha.2.2.1⟩ ⟨hb.2.1, hb.2.2.1⟩
  have h2 := mgX_sml (a := a.c) (b := b.c) ⟨ha.2.2.2.1, ha.2.2.2.2⟩ ⟨hb.2.2.2.1, hb.2.2.2.2⟩
  refine ⟨?_, h1.1, h1.2, h2.1, h2.2⟩
  show (if a.v.toList.isEmpty then b.v else a.v).size ≤ _
  split
  · exact hb.1
  · exact ha.1
theorem nodeF_mg' {g : Gr} {a b : El} {k : Nat} (h : mergeB a b = true) (hk : k < g.ns.length) : nodeF g (k : Int) (mergeR a b) = (nodeF g (k : Int) a && nodeF g (k : Int) b) := by
  cases hg : gv g with
  | true => exact nodeF_mg h hg hk
  | false => unfold nodeF; rw [hg]; rfl
end Go.Proofs.YtbbemeaojmfndaaDoor
