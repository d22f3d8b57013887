/- Lemmas on the data and the memory of this program's values: several texts in one. -/
import Derived.Test.YtghhabailgfelaaDoorL2K
import Derived.Test.YtghhabailgfelaaDoorElV
import Derived.Test.YtghhabailgfelaaDoorFitsI
import Derived.Test.YtghhabailgfelaaDoorM6p1
import Derived.Test.YtghhabailgfelaaDoorM0p2
import Derived.Test.YtghhabailgfelaaDoorM1p1
namespace Go.Proofs.YtghhabailgfelaaDoor
open Go.RowKit

/-- The cells of an element in the variable in block b. -/
def ElC (n : Bool) (v : ByteArray) (lo : Int) (la : ByteArray) (lk : Value) (co : Int) (ca : ByteArray) (ck : Value) (d : Int) (b : Nat) (w : World) : Prop :=
  (w.cell? ⟨b, 0, none⟩ = some (.bool n) ∧ w.cell? ⟨b, 1, none⟩ = some (.string v) ∧ w.cell? ⟨b, 2, none⟩ = some (.int .i64 lo) ∧ w.cell? ⟨b, 3, none⟩ = some (.string la) ∧ w.cell? ⟨b, 4, none⟩ = some lk ∧
    w.cell? ⟨b, 5, none⟩ = some (.int .i64 co) ∧ w.cell? ⟨b, 6, none⟩ = some (.string ca) ∧ w.cell? ⟨b, 7, none⟩ = some ck ∧ w.cell? ⟨b, 8, none⟩ = some (.int .i64 d)) ∧ (∀ i, w.frozen? ⟨b, i, none⟩ = false) ∧ b < w.heap.size
section
variable {n : Bool} {v : ByteArray} {lo : Int} {la : ByteArray} {lk : Value} {co : Int} {ca : ByteArray} {ck : Value} {d : Int} {b : Nat} {w : World}
theorem ElC.new (T : TypeId) : ElC n v lo la lk co ca ck d w.heap.size (w.alloc (.cells #[.bool n, .string v, .int .i64 lo, .string la, lk, .int .i64 co, .string ca, ck, .int .i64 d] T)) :=
  ⟨⟨cellsAt 0, cellsAt 1, cellsAt 2, cellsAt 3, cellsAt 4, cellsAt 5, cellsAt 6, cellsAt 7, cellsAt 8⟩, fun _ => World.frozen?_alloc_at _ _ _ _ rfl, by simp⟩
theorem ElC.chg {G : List Nat} {w' : World} (h : ElC n v lo la lk co ca ck d b w) (hc : Chg G w w') (hG : b ∉ G) : ElC n v lo la lk co ca ck d b w' := by
  obtain ⟨⟨h0, h1, h2, h3, h4, h5, h6, h7, h8⟩, hz, hl⟩ := h
  exact ⟨⟨hc.cellOf hG h0, hc.cellOf hG h1, hc.cellOf hG h2, hc.cellOf hG h3, hc.cellOf hG h4, hc.cellOf hG h5, hc.cellOf hG h6, hc.cellOf hG h7, hc.cellOf hG h8⟩, fun i => hc.frozenOf hG hl (hz i), Nat.lt_of_lt_of_le hl hc.size⟩
theorem ElC.fz {i : Nat} (h : ElC n v lo la lk co ca ck d b w) : w.frozen? ⟨b, i, none⟩ = false := h.2.1 i
theorem ElC.setD (h : ElC n v lo la lk co ca ck d b w) (d' : Int) : ElC n v lo la lk co ca ck d' b (w.setCell ⟨b, 8, none⟩ (.int .i64 d')) := by
  obtain ⟨⟨h0, h1, h2, h3, h4, h5, h6, h7, h8⟩, hz, hl⟩ := h
  have N := fun (i : Nat) (hi : (8 : Nat) ≠ i) => set_near w b 8 (.int .i64 d') i hi
  exact ⟨⟨(N _ (by decide)).trans h0, (N _ (by decide)).trans h1, (N _ (by decide)).trans h2, (N _ (by decide)).trans h3, (N _ (by decide)).trans h4, (N _ (by decide)).trans h5, (N _ (by decide)).trans h6, (N _ (by decide)).trans h7, set_same _ _ _ _ _ h8⟩, fun i => by simpa [go_sem] using hz i, by simpa using hl⟩
theorem ElC.setV (h : ElC n v lo la lk co ca ck d b w) (v' : ByteArray) : ElC n v' lo la lk co ca ck d b (w.setCell ⟨b, 1, none⟩ (.string v')) := by
  obtain ⟨⟨h0, h1, h2, h3, h4, h5, h6, h7, h8⟩, hz, hl⟩ := h
  have N := fun (i : Nat) (hi : (1 : Nat) ≠ i) => set_near w b 1 (.string v') i hi
  exact ⟨⟨(N _ (by decide)).trans h0, set_same _ _ _ _ _ h1, (N _ (by decide)).trans h2, (N _ (by decide)).trans h3, (N _ (by decide)).trans h4, (N _ (by decide)).trans h5, (N _ (by decide)).trans h6, (N _ (by decide)).trans h7, (N _ (by decide)).trans h8⟩, fun i => by simpa [go_sem] using hz i, by simpa using hl⟩
theorem ElC.setN (h : ElC n v lo la lk co ca ck d b w) (n' : Bool) : ElC n' v lo la lk co ca ck d b (w.setCell ⟨b, 0, none⟩ (.bool n')) := by
  obtain ⟨⟨h0, h1, h2, h3, h4, h5, h6, h7, h8⟩, hz, hl⟩ := h
  have N := fun (i : Nat) (hi : (0 : Nat) ≠ i) => set_near w b 0 (.bool n') i hi
  exact ⟨⟨set_same _ _ _ _ _ h0, (N _ (by decide)).trans h1, (N _ (by decide)).trans h2, (N _ (by decide)).trans h3, (N _ (by decide)).trans h4, (N _ (by decide)).trans h5, (N _ (by decide)).trans h6, (N _ (by decide)).trans h7, (N _ (by decide)).trans h8⟩, fun i => by simpa [go_sem] using hz i, by simpa using hl⟩
theorem near3 (w : World) (b o : Nat) (x y z : Value) (i : Nat) (h : i ≠ o ∧ i ≠ o + 1 ∧ i ≠ o + 2) : (((w.setCell ⟨b, o, none⟩ x).setCell ⟨b, o + 1, none⟩ y).setCell ⟨b, o + 2, none⟩ z).cell? ⟨b, i, none⟩ = w.cell? ⟨b, i, none⟩ :=
  (set_near _ _ _ _ _ (by omega)).trans ((set_near _ _ _ _ _ (by omega)).trans (set_near _ _ _ _ _ (by omega)))
theorem ElC.setL (h : ElC n v lo la lk co ca ck d b w) (lo' : Int) (la' : ByteArray) (lk' : Value) : ElC n v lo' la' lk' co ca ck d b (((w.setCell ⟨b, 2, none⟩ (.int .i64 lo')).setCell ⟨b, 3, none⟩ (.string la')).setCell ⟨b, 4, none⟩ lk') := by
  obtain ⟨⟨h0, h1, h2, h3, h4, h5, h6, h7, h8⟩, hz, hl⟩ := h
  have N := near3 w b 2 (.int .i64 lo') (.string la') lk'
  obtain ⟨_, g0, g1, g2, _, gz⟩ := store3 (y0 := .int .i64 lo') (y1 := .string la') (y2 := lk') h2 h3 h4 hz
  exact ⟨⟨(N _ (by decide)).trans h0, (N _ (by decide)).trans h1, g0, g1, g2, (N _ (by decide)).trans h5, (N _ (by decide)).trans h6, (N _ (by decide)).trans h7, (N _ (by decide)).trans h8⟩, gz, by simpa using hl⟩
theorem ElC.setC (h : ElC n v lo la lk co ca ck d b w) (co' : Int) (ca' : ByteArray) (ck' : Value) : ElC n v lo la lk co' ca' ck' d b (((w.setCell ⟨b, 5, none⟩ (.int .i64 co')).setCell ⟨b, 6, none⟩ (.string ca')).setCell ⟨b, 7, none⟩ ck') := by
  obtain ⟨⟨h0, h1, h2, h3, h4, h5, h6, h7, h8⟩, hz, hl⟩ := h
  have N := near3 w b 5 (.int .i64 co') (.string ca') ck'
  obtain ⟨_, g0, g1, g2, _, gz⟩ := store3 (y0 := .int .i64 co') (y1 := .string ca') (y2 := ck') h5 h6 h7 hz
  exact ⟨⟨(N _ (by decide)).trans h0, (N _ (by decide)).trans h1, (N _ (by decide)).trans h2, (N _ (by decide)).trans h3, (N _ (by decide)).trans h4, g0, g1, g2, (N _ (by decide)).trans h8⟩, gz, by simpa using hl⟩
end
/-- An element in the making: its cells in the variable in block b, its parts in memory of the call's own, from lo on. -/
def ElM (x : El) (p : Option Addr) (c : Nat) (p' : Option Addr) (c' : Nat) (k b lo : Nat) (w : World) : Prop :=
  ElC x.n x.v x.l.op x.l.a (.slice p x.l.ks.list.length c) x.c.op x.c.a (.slice p' x.c.ks.list.length c') x.d b w ∧
    (x.v.size ≤ 100 ∧ x.l.Dn k ∧ x.c.Dn k ∧ -1000 ≤ x.d ∧ x.d ≤ 1000) ∧
    ∃ F1 F2, (x.l.ks.Own w (.slice p x.l.ks.list.length c) F1 ∧ x.c.ks.Own w (.slice p' x.c.ks.list.length c') F2) ∧ (∀ z ∈ F1, lo ≤ z ∧ z ≠ b) ∧ (∀ z ∈ F2, lo ≤ z ∧ z ≠ b) ∧ ∀ z ∈ F1, z ∉ F2
def noX : Ex := ⟨0, ⟨#[]⟩, .nil⟩
theorem noX_dn (k : Nat) : noX.Dn k := ⟨by decide, trivial, Nat.zero_le _⟩
section
variable {x : El} {p : Option Addr} {c : Nat} {p' : Option Addr} {c' : Nat} {k b lo : Nat} {w : World}
theorem ElM.lt (h : ElM x p c p' c' k b lo w) : b < w.heap.size := h.1.2.2
theorem ElM.chg {G : List Nat} {w' : World} (h : ElM x p c p' c' k b lo w) (hc : Chg G w w') (hG : ∀ y ∈ G, y < lo ∧ y ≠ b) : ElM x p c p' c' k b lo w' := by
  obtain ⟨h1, h2, F1, F2, ⟨h3, h4⟩, h5, h6, h7⟩ := h
  exact ⟨h1.chg hc (fun hm => (hG b hm).2 rfl), h2, F1, F2, ⟨h3.chg hc (fun z hz hm => by have := h5 z hz; have := hG z hm; omega), h4.chg hc (fun z hz hm => by have := h6 z hz; have := hG z hm; omega)⟩, h5, h6, h7⟩
theorem ElM.new {v : ByteArray} {n : Bool} (hv : v.size ≤ 100) (T : TypeId) :
    ElM ⟨n, v, noX, noX, 0⟩ none 0 none 0 k w.heap.size lo (w.alloc (.cells #[.bool n, .string v, .int .i64 0, .string ⟨#[]⟩, .slice none 0 0, .int .i64 0, .string ⟨#[]⟩, .slice none 0 0, .int .i64 0] T)) :=
  ⟨ElC.new T, ⟨hv, noX_dn k, noX_dn k, (by decide : (-1000 : Int) ≤ 0), (by decide : (0 : Int) ≤ 1000)⟩, [], [], ⟨Fo.Own.empty _, Fo.Own.empty _⟩, by simp, by simp, by simp⟩
theorem ElM.one {o : Nat} {y : Value} (h : ElM x p c p' c' k b lo w) : ∃ F1 F2, (x.l.ks.Own (w.setCell ⟨b, o, none⟩ y) (.slice p x.l.ks.list.length c) F1 ∧ x.c.ks.Own (w.setCell ⟨b, o, none⟩ y) (.slice p' x.c.ks.list.length c') F2) ∧ (∀ z ∈ F1, lo ≤ z ∧ z ≠ b) ∧ (∀ z ∈ F2, lo ≤ z ∧ z ≠ b) ∧ ∀ z ∈ F1, z ∉ F2 := by
  obtain ⟨h1, h2, F1, F2, ⟨h3, h4⟩, h5, h6, h7⟩ := h
  have kx : Chg [b] w (w.setCell ⟨b, o, none⟩ y) := (Chg.refl _ _).setCell (by simp) _
  exact ⟨F1, F2, ⟨h3.chg kx (fun z hz hm => (h5 z hz).2 (by simpa using hm)), h4.chg kx (fun z hz hm => (h6 z hz).2 (by simpa using hm))⟩, h5, h6, h7⟩
theorem ElM.setD (h : ElM x p c p' c' k b lo w) {d : Int} (h1 : -1000 ≤ d) (h2 : d ≤ 1000) : ElM { x with d := d } p c p' c' k b lo (w.setCell ⟨b, 8, none⟩ (.int .i64 d)) :=
  ⟨h.1.setD d, ⟨h.2.1.1, h.2.1.2.1, h.2.1.2.2.1, h1, h2⟩, h.one⟩
theorem ElM.setV (h : ElM x p c p' c' k b lo w) {v : ByteArray} (h1 : v.size ≤ 100) : ElM { x with v := v } p c p' c' k b lo (w.setCell ⟨b, 1, none⟩ (.string v)) :=
  ⟨h.1.setV v, ⟨h1, h.2.1.2⟩, h.one⟩
theorem ElM.setN (h : ElM x p c p' c' k b lo w) (n : Bool) : ElM { x with n := n } p c p' c' k b lo (w.setCell ⟨b, 0, none⟩ (.bool n)) :=
  ⟨h.1.setN n, h.2.1, h.one⟩
/-- New labels: memory that is new since a world w0. -/
theorem ElM.setL {y : Ex} {q : Option Addr} {cq k' : Nat} {G : List Nat} (h : ElM x p c p' c' k b lo w) (hy : y.ks.Own w (.slice q y.ks.list.length cq) G) (hd : y.Dn k') (hk : k ≤ k') (w0 : World) (hG : ∀ z ∈ G, w0.heap.size ≤ z) (hlo : lo ≤ w0.heap.size) (hb : b < w0.heap.size)
    (hold : ElM x p c p' c' k b lo w0) (hsame : Chg [] w0 w ∨ ∃ a, Chg [a] w0 w ∧ a < lo ∧ a ≠ b) :
    ElM { x with l := y } q cq p' c' k' b lo (((w.setCell ⟨b, 2, none⟩ (.int .i64 y.op)).setCell ⟨b, 3, none⟩ (.string y.a)).setCell ⟨b, 4, none⟩ (.slice q y.ks.list.length cq)) := by
  obtain ⟨_, _, F1, F2, ⟨h3, h4⟩, h5, h6, h7⟩ := hold
  have kx : Chg [b] w (((w.setCell ⟨b, 2, none⟩ (.int .i64 y.op)).setCell ⟨b, 3, none⟩ (.string y.a)).setCell ⟨b, 4, none⟩ (.slice q y.ks.list.length cq)) := (((Chg.refl _ _).setCell (by simp) _).setCell (by simp) _).setCell (by simp) _
  have l4 := h4.lt
  have h4' : x.c.ks.Own w (.slice p' x.c.ks.list.length c') F2 := by
    rcases hsame with hs | ⟨a, hs, ha, hab⟩
    · exact h4.chg hs (by simp)
    · exact h4.chg hs (fun z hz hm => by have := h6 z hz; simp at hm; omega)
  refine ⟨h.1.setL _ _ _, ⟨h.2.1.1, hd, h.2.1.2.2.1.mono hk, h.2.1.2.2.2⟩, G, F2, ⟨hy.chg kx (fun z hz hm => ?_), h4'.chg kx (fun z hz hm => (h6 z hz).2 (by simpa using hm))⟩, fun z hz => ?_, h6, fun z hz hm => ?_⟩
  · have := hG z hz; simp at hm; omega
  · have := hG z hz; omega
  · have := hG z hz; have := l4 z hm; omega
theorem ElM.setC {y : Ex} {q : Option Addr} {cq k' : Nat} {G : List Nat} (h : ElM x p c p' c' k b lo w) (hy : y.ks.Own w (.slice q y.ks.list.length cq) G) (hd : y.Dn k') (hk : k ≤ k') (w0 : World) (hG : ∀ z ∈ G, w0.heap.size ≤ z) (hlo : lo ≤ w0.heap.size) (hb : b < w0.heap.size)
    (hold : ElM x p c p' c' k b lo w0) (hsame : Chg [] w0 w ∨ ∃ a, Chg [a] w0 w ∧ a < lo ∧ a ≠ b) :
    ElM { x with c := y } p c q cq k' b lo (((w.setCell ⟨b, 5, none⟩ (.int .i64 y.op)).setCell ⟨b, 6, none⟩ (.string y.a)).setCell ⟨b, 7, none⟩ (.slice q y.ks.list.length cq)) := by
  obtain ⟨_, _, F1, F2, ⟨h3, h4⟩, h5, h6, h7⟩ := hold
  have kx : Chg [b] w (((w.setCell ⟨b, 5, none⟩ (.int .i64 y.op)).setCell ⟨b, 6, none⟩ (.string y.a)).setCell ⟨b, 7, none⟩ (.slice q y.ks.list.length cq)) := (((Chg.refl _ _).setCell (by simp) _).setCell (by simp) _).setCell (by simp) _
  have l3 := h3.lt
  have h3' : x.l.ks.Own w (.slice p x.l.ks.list.length c) F1 := by
    rcases hsame with hs | ⟨a, hs, ha, hab⟩
    · exact h3.chg hs (by simp)
    · exact h3.chg hs (fun z hz hm => by have := h5 z hz; simp at hm; omega)
  refine ⟨h.1.setC _ _ _, ⟨h.2.1.1, h.2.1.2.1.mono hk, hd, h.2.1.2.2.2⟩, F1, G, ⟨h3'.chg kx (fun z hz hm => (h5 z hz).2 (by simpa using hm)), hy.chg kx (fun z hz hm => ?_)⟩, h5, fun z hz => ?_, fun z hz hm => ?_⟩
  · have := hG z hz; simp at hm; omega
  · have := hG z hz; omega
  · have := l3 z hz; have := hG z hm; omega
end
theorem ElM.kmono {x : El} {p : Option Addr} {c : Nat} {p' : Option Addr} {c' : Nat} {k k' b lo : Nat} {w : World} (h : ElM x p c p' c' k b lo w) (hk : k ≤ k') : ElM x p c p' c' k' b lo w :=
  ⟨h.1, ⟨h.2.1.1, h.2.1.2.1.mono hk, h.2.1.2.2.1.mono hk, h.2.1.2.2.2⟩, h.2.2⟩
theorem ElM.label {x : El} {p : Option Addr} {c : Nat} {p' : Option Addr} {c' : Nat} {k b lo : Nat} {w : World} (h : ElM x p c p' c' k b lo w) : x.l.ks.In w.heap.size w (.slice p x.l.ks.list.length c) ∧ x.l.Dn k := by
  obtain ⟨_, h2, F1, F2, ⟨h3, _⟩, _⟩ := h
  exact ⟨h3.in, h2.2.1⟩
/-- A variable that was made now, of an element in the call's own memory. -/
theorem ElM.of_has {x : El} {u : Value} {F : List Nat} {lo k : Nat} {w : World} {p : Option Addr} {c : Nat} {p' : Option Addr} {c' : Nat} (h : x.Has u F w) (hu : u = .agg #[.bool x.n, .string x.v, .int .i64 x.l.op, .string x.l.a, .slice p x.l.ks.list.length c, .int .i64 x.c.op, .string x.c.a, .slice p' x.c.ks.list.length c', .int .i64 x.d]) (hF : ∀ z ∈ F, lo ≤ z) (hd : x.v.size ≤ 100 ∧ x.l.Dn k ∧ x.c.Dn k ∧ -1000 ≤ x.d ∧ x.d ≤ 1000) (T : TypeId) :
    ElM x p c p' c' k w.heap.size lo (w.alloc (.cells #[.bool x.n, .string x.v, .int .i64 x.l.op, .string x.l.a, .slice p x.l.ks.list.length c, .int .i64 x.c.op, .string x.c.a, .slice p' x.c.ks.list.length c', .int .i64 x.d] T)) := by
  obtain ⟨k1, k2, F1, F2, rfl, rfl, h2, h3, h4⟩ := h
  cases hu
  have l3 := h3.lt
  have l4 := h4.lt
  have kx : Chg [] w (w.alloc (.cells #[.bool x.n, .string x.v, .int .i64 x.l.op, .string x.l.a, .slice p x.l.ks.list.length c, .int .i64 x.c.op, .string x.c.a, .slice p' x.c.ks.list.length c', .int .i64 x.d] T)) := (Chg.refl _ _).alloc _
  exact ⟨ElC.new T, hd, F1, F2, ⟨h3.chg kx (by simp), h4.chg kx (by simp)⟩, fun z hz => ⟨hF z (List.mem_append_left _ hz), by have := l3 z hz; omega⟩, fun z hz => ⟨hF z (List.mem_append_right _ hz), by have := l4 z hz; omega⟩, h2⟩
/-- A drawn element in memory of the call's own. -/
def EDr (x : El) (p : Option Addr) (c : Nat) (p' : Option Addr) (c' : Nat) (k lo : Nat) (w : World) : Prop :=
  (x.v.size ≤ 100 ∧ x.l.Dn k ∧ x.c.Dn k ∧ -1000 ≤ x.d ∧ x.d ≤ 1000) ∧ ∃ F1 F2, (x.l.ks.Own w (.slice p x.l.ks.list.length c) F1 ∧ x.c.ks.Own w (.slice p' x.c.ks.list.length c') F2) ∧ (∀ z ∈ F1, lo ≤ z) ∧ (∀ z ∈ F2, lo ≤ z) ∧ ∀ z ∈ F1, z ∉ F2
def elV (x : El) (p : Option Addr) (c : Nat) (p' : Option Addr) (c' : Nat) : Value := .agg #[.bool x.n, .string x.v, .int .i64 x.l.op, .string x.l.a, .slice p x.l.ks.list.length c, .int .i64 x.c.op, .string x.c.a, .slice p' x.c.ks.list.length c', .int .i64 x.d]
section
variable {x : El} {p : Option Addr} {c : Nat} {p' : Option Addr} {c' : Nat} {k lo : Nat} {w : World}
theorem EDr.chg {G : List Nat} {w' : World} (h : EDr x p c p' c' k lo w) (hc : Chg G w w') (hG : ∀ y ∈ G, y < lo) : EDr x p c p' c' k lo w' := by
  obtain ⟨h2, F1, F2, ⟨h3, h4⟩, h5, h6, h7⟩ := h
  exact ⟨h2, F1, F2, ⟨h3.chg hc (fun z hz hm => by have := h5 z hz; have := hG z hm; omega), h4.chg hc (fun z hz hm => by have := h6 z hz; have := hG z hm; omega)⟩, h5, h6, h7⟩
theorem EDr.low {lo' : Nat} (h : EDr x p c p' c' k lo w) (hl : lo' ≤ lo) : EDr x p c p' c' k lo' w := by
  obtain ⟨h2, F1, F2, h3, h5, h6, h7⟩ := h
  exact ⟨h2, F1, F2, h3, fun z hz => Nat.le_trans hl (h5 z hz), fun z hz => Nat.le_trans hl (h6 z hz), h7⟩
theorem EDr.at (h : EDr x p c p' c' k lo w) : x.At w.heap.size w (elV x p c p' c') := by
  obtain ⟨h2, F1, F2, ⟨h3, h4⟩, _⟩ := h
  exact ⟨_, _, rfl, h3.in, h4.in⟩
theorem EDr.sm (h : EDr x p c p' c' k lo w) : x.Sm := ⟨by have := h.1.1; omega, by have := h.1.2.1.1.2.2; omega, h.1.2.1.2.1.sm, by have := h.1.2.2.1.1.2.2; omega, h.1.2.2.1.2.1.sm⟩
theorem EDr.has (h : EDr x p c p' c' k lo w) : ∃ F, x.Has (elV x p c p' c') F w := by
  obtain ⟨_, F1, F2, ⟨h3, h4⟩, h5, h6, h7⟩ := h
  exact ⟨F1 ++ F2, _, _, F1, F2, rfl, rfl, h7, h3, h4⟩
end
theorem ElM.dr {x : El} {p : Option Addr} {c : Nat} {p' : Option Addr} {c' : Nat} {k b lo : Nat} {w : World} (h : ElM x p c p' c' k b lo w) : EDr x p c p' c' k lo w := by
  obtain ⟨h1, h2, F1, F2, h3, h5, h6, h7⟩ := h
  exact ⟨h2, F1, F2, h3, fun z hz => (h5 z hz).1, fun z hz => (h6 z hz).1, h7⟩
def store9 (E : World) (r : Nat) (x : El) (p : Option Addr) (c : Nat) (p' : Option Addr) (c' : Nat) : World :=
  ((((((((E.setCell ⟨r, 0, none⟩ (.bool x.n)).setCell ⟨r, 1, none⟩ (.string x.v)).setCell ⟨r, 2, none⟩ (.int .i64 x.l.op)).setCell ⟨r, 3, none⟩ (.string x.l.a)).setCell ⟨r, 4, none⟩ (.slice p x.l.ks.list.length c)).setCell ⟨r, 5, none⟩ (.int .i64 x.c.op)).setCell ⟨r, 6, none⟩ (.string x.c.a)).setCell ⟨r, 7, none⟩ (.slice p' x.c.ks.list.length c')).setCell ⟨r, 8, none⟩ (.int .i64 x.d)
theorem store9_chg {E : World} {r : Nat} {x : El} {p : Option Addr} {c : Nat} {p' : Option Addr} {c' : Nat} : Chg [r] E (store9 E r x p c p' c') :=
  ((((((((((Chg.refl _ _).setCell (by simp) _).setCell (by simp) _).setCell (by simp) _).setCell (by simp) _).setCell (by simp) _).setCell (by simp) _).setCell (by simp) _).setCell (by simp) _).setCell (by simp) _)
/-- What l3Some and l3Wrong answer. -/
def SomeE (k n a N : Nat) (w : World) (e : Ending) (w' : World) : Prop :=
  ∃ (x : El) (p : Option Addr) (c : Nat) (p' : Option Addr) (c' : Nat), e = .returned (.agg #[.bool x.n, .string x.v, .int .i64 x.l.op, .string x.l.a, .slice p x.l.ks.list.length c, .int .i64 x.c.op, .string x.c.a, .slice p' x.c.ks.list.length c', .int .i64 x.d]) ∧
    EDr x p c p' c' k w.heap.size w' ∧ Dr w' a (N + n) ∧ Chg [a] w w'
theorem SomeE.fin {x : El} {p : Option Addr} {c : Nat} {p' : Option Addr} {c' : Nat} {k n a N r b lo : Nat} {w W1 E : World} (h : ElM x p c p' c' k b lo E) (h1 : Chg [] w W1) (hr : w.heap.size ≤ r) (hrl : r < lo) (hal : a < w.heap.size) (hd : Dr E a (N + n)) (hc : Chg [a] W1 E) :
    SomeE k n a N w (.returned (elV x p c p' c')) (store9 E r x p c p' c') :=
  ⟨x, p, c, p', c', rfl, (h.dr.chg store9_chg (by simpa using hrl)).low (by omega), hd.chg store9_chg (by simp; omega), ((h1.mono (by simp)).trans hc).past store9_chg (by simpa using .inr hr)⟩
end Go.Proofs.YtghhabailgfelaaDoor
namespace Go.Proofs.YtghhabailgfelaaDoor
open Go.RowKit

theorem hn_big' {k : Nat} {n : Int} (h : (k : Int) ≤ n) : hn k n = false := by unfold hn; rw [decide_eq_false (p := n < (k : Int)) (by omega)]; simp
theorem elemV_parts' {e : El} (h : elemV e = true) : partV 1 e.l = true ∧ partV 2 e.c = true := by
  unfold elemV at h
  simp only [Bool.and_eq_true] at h
  exact h.2.2
theorem part_none {kind : Int} {e : Ex} (h : partV kind e = true) (ho : e.op = 0) : exNone e = true := by
  unfold partV at h
  simp only [Bool.or_eq_true] at h
  rcases h with h | h
  · exact h
  · exact absurd ho (exV_op h)
theorem part_some {e : Ex} (ho : e.op ≠ 0) : exNone e = false := by unfold exNone noneB; rw [decide_eq_false ho]; rfl
theorem labF_none {e : Ex} {s : ByteArray} (h : partV 1 e = true) (ho : e.op = 0) : labF e s = true := by unfold labF; rw [part_none h ho]; rfl
theorem labF_some {e : Ex} {s : ByteArray} (ho : e.op ≠ 0) : labF e s = lholds e s := by unfold labF; rw [part_some ho]; rfl
theorem numF_none {e : Ex} {m : Int} (h : partV 2 e = true) (ho : e.op = 0) : numF e m = true := by unfold numF; rw [part_none h ho]; rfl
theorem numF_some {e : Ex} {m : Int} (ho : e.op ≠ 0) : numF e m = nholds e m := by unfold numF; rw [part_some ho]; rfl
/-- The element of nodes without anything. -/
def emN : El := ⟨true, ⟨#[]⟩, noX, noX, 0⟩
theorem emN_at (B : Nat) (w : World) : emN.At B w (.agg #[.bool true, .string ⟨#[]⟩, .int .i64 0, .string ⟨#[]⟩, .slice none 0 0, .int .i64 0, .string ⟨#[]⟩, .slice none 0 0, .int .i64 0]) :=
  ⟨_, _, rfl, ⟨none, 0, rfl, Nat.le_refl _, Nat.zero_le _, .inl rfl⟩, ⟨none, 0, rfl, Nat.le_refl _, Nat.zero_le _, .inl rfl⟩⟩
theorem emN_sm : emN.Sm := ⟨by decide, by decide, trivial, by decide, trivial⟩
theorem nodeF_emN {g : Gr} {k : Nat} (h : gv g = true) (hk : k < g.ns.length) : nodeF g (k : Int) emN = true := by
  unfold nodeF
  rw [h, hn_at hk]
  rfl
theorem El.At.cnd {e : El} {B : Nat} {w : World} {u : Value} (h : e.At B w u) : ∃ k, e.c.At B w (.agg #[.int .i64 e.c.op, .string e.c.a, k]) := by
  obtain ⟨k, k', h1, h2, h3⟩ := h; exact ⟨k', k', rfl, h3⟩
/-- Other variables: the element is as valid, and as many fit. -/
theorem elemV_var {n : Bool} {v v' : ByteArray} {l c : Ex} {d : Int} (h : elemV ⟨n, v, l, c, d⟩ = true) (hv : varV v' = true) : elemV ⟨n, v', l, c, d⟩ = true := by
  unfold elemV at h ⊢
  simp only [Bool.and_eq_true] at h ⊢
  exact ⟨h.1, hv, h.2.2⟩
theorem nodeF_var {g : Gr} {m : Int} {n : Bool} {v v' : ByteArray} {l c : Ex} {d : Int} (h : elemV ⟨n, v, l, c, d⟩ = true) (hv : varV v' = true) : nodeF g m ⟨n, v', l, c, d⟩ = nodeF g m ⟨n, v, l, c, d⟩ := by
  unfold nodeF
  rw [elemV_var h hv, h]
  rfl
theorem El.At.var {n : Bool} {v : ByteArray} {l c : Ex} {d : Int} {B : Nat} {w : World} {p p' : Option Addr} {c1 c2 : Nat} (h : (⟨n, v, l, c, d⟩ : El).At B w (.agg #[.bool n, .string v, .int .i64 l.op, .string l.a, .slice p l.ks.list.length c1, .int .i64 c.op, .string c.a, .slice p' c.ks.list.length c2, .int .i64 d])) (v' : ByteArray) :
    (⟨n, v', l, c, d⟩ : El).At B w (.agg #[.bool n, .string v', .int .i64 l.op, .string l.a, .slice p l.ks.list.length c1, .int .i64 c.op, .string c.a, .slice p' c.ks.list.length c2, .int .i64 d]) := by
  obtain ⟨k, k', e1, h2, h3⟩ := h
  cases e1
  exact ⟨_, _, rfl, h2, h3⟩
theorem El.Sm.var {n : Bool} {v v' : ByteArray} {l c : Ex} {d : Int} (h : (⟨n, v, l, c, d⟩ : El).Sm) (hv : v'.size ≤ 1048576) : (⟨n, v', l, c, d⟩ : El).Sm := ⟨hv, h.2⟩
end Go.Proofs.YtghhabailgfelaaDoor
namespace Go.Proofs.YtghhabailgfelaaDoor
open Go.RowKit

/-- Each hop goes along an edge that it follows, and the edges ascend. -/
theorem hopsN_mem {node : Int} {e : El} {es : List Ed} {h : Hp} : ∀ {k}, h ∈ hopsN node e es k → ∃ (j : Nat) (x : Ed), es[j]? = some x ∧ j < k ∧ h = ⟨j, follT node e.d x⟩ ∧ hopB node e x = true
  | 0, hm => by simp [hopsN] at hm
  | k + 1, hm => by
    unfold hopsN at hm
    split at hm
    · rename_i hc
      rcases List.mem_append.1 hm with h1 | h1
      · obtain ⟨j, x, e1, e2, e3⟩ := hopsN_mem h1
        exact ⟨j, x, e1, by omega, e3⟩
      · rw [List.mem_singleton] at h1
        cases hx : es[k]? with
        | none => rw [hx] at hc; cases hc
        | some x => rw [hx] at hc h1; exact ⟨k, x, hx, by omega, h1, hc⟩
    · obtain ⟨j, x, e1, e2, e3⟩ := hopsN_mem hm
      exact ⟨j, x, e1, by omega, e3⟩
theorem hopsN_asc {node : Int} {e : El} {es : List Ed} : ∀ k, (hopsN node e es k).Pairwise (fun a b => a.e < b.e)
  | 0 => List.Pairwise.nil
  | k + 1 => by
    unfold hopsN
    split
    · refine List.pairwise_append.2 ⟨hopsN_asc k, by simp, fun a ha b hb => ?_⟩
      obtain ⟨j, x, _, h2, rfl, _⟩ := hopsN_mem ha
      rw [List.mem_singleton] at hb
      subst hb
      show (j : Int) < (k : Int)
      omega
    · exact hopsN_asc k
theorem hopsR_val {g : Gr} {node : Int} {e : El} {h : Hp} (hm : h ∈ hopsR g node e) : gv g = true ∧ elemV e = true ∧ e.n = false := by
  unfold hopsR at hm
  split at hm
  · rename_i hc
    simp only [Bool.and_eq_true, Bool.not_eq_true'] at hc
    exact hc
  · cases hm
/-- What the law asks of a hop: the edge fits, and leads from the node in the direction of the element. -/
theorem hopsR_at' {g : Gr} {node : Int} {e : El} {R : List Hp} (ER : hopsR g node e = R) {i : Nat} (hi : i < R.length) :
    ∃ (j : Nat) (hj : j < g.es.length), R[i].e = j ∧ edgeF g (j : Int) e = true ∧
      (((g.es[j].f = node ∧ g.es[j].t = R[i].t) ∧ e.d ≠ 2) ∨ ((g.es[j].t = node ∧ g.es[j].f = R[i].t) ∧ e.d ≠ 1)) ∧
      (0 < i → ∃ hi' : i - 1 < R.length, R[i - 1].e < j) := by
  have hm : R[i] ∈ R := List.getElem_mem hi
  obtain ⟨hg, he, hn⟩ := hopsR_val (g := g) (node := node) (e := e) (h := R[i]) (by rw [ER]; exact hm)
  have hR : hopsR g node e = hopsN node e g.es g.es.length := hopsR_yes (by rw [hg, he, hn]; rfl)
  have hasc : R.Pairwise (fun a b => a.e < b.e) := by rw [← ER, hR]; exact hopsN_asc _
  have hm2 : R[i] ∈ hopsN node e g.es g.es.length := by rw [← hR, ER]; exact hm
  obtain ⟨j, x, h1, h2, h5, h4⟩ := hopsN_mem hm2
  have hj : j < g.es.length := h2
  have hx : g.es[j] = x := by rw [List.getElem?_eq_getElem hj] at h1; exact Option.some.inj h1
  have h6 : R[i].t = follT node e.d x := by rw [h5]
  have h7 : R[i].e = (j : Int) := by rw [h5]
  unfold hopB at h4
  simp only [Bool.and_eq_true] at h4
  refine ⟨j, hj, h7, ?_, ?_, fun h0 => ⟨by omega, ?_⟩⟩
  · unfold edgeF
    rw [hg, hn_at hj, he, hn, edAt_eq hj, hx, h4.2]
    rfl
  · rw [h6, hx]
    clear h6 h7
    have h6 := h4.1
    unfold follB at h6
    unfold follT
    cases q1 : (e.d != 2 && x.f == node) with
    | true =>
      rw [if_pos rfl]
      simp only [Bool.and_eq_true, bne_iff_ne, beq_iff_eq] at q1
      exact .inl ⟨⟨q1.2, rfl⟩, q1.1⟩
    | false =>
      rw [q1] at h6
      rw [if_neg (by decide)]
      have h7 : (e.d != 1 && x.t == node) = true := by simpa using h6
      rw [h7, if_pos rfl]
      simp only [Bool.and_eq_true, bne_iff_ne, beq_iff_eq] at h7
      exact .inr ⟨⟨h7.2, rfl⟩, h7.1⟩
  · have := List.pairwise_iff_getElem.1 hasc (i - 1) i (by omega) hi (by omega)
    rw [h7] at this
    exact this
/-- Whether an edge is gone. -/
def goneE (m : Int) (hs : List Hp) : Bool := hs.any (fun h => h.e == m)
theorem goneN {node : Int} {e : El} {es : List Ed} {m : Nat} (hm : m < es.length) : ∀ k, k ≤ es.length → goneE (m : Int) (hopsN node e es k) = (decide (m < k) && hopB node e es[m])
  | 0, _ => by simp [goneE, hopsN]
  | k + 1, hk => by
    have ih := goneN (node := node) (e := e) hm k (by omega)
    have hlt : k < es.length := hk
    cases hp : hopB node e es[k] with
    | false =>
      rw [hopsN_no hlt hp, ih]
      by_cases hmk : m = k
      · subst hmk; rw [hp]; simp
      · rw [show decide (m < k + 1) = decide (m < k) from decide_eq_decide.2 (by omega)]
    | true =>
      rw [hopsN_yes hlt hp]
      unfold goneE at ih ⊢
      rw [List.any_append, ih]
      by_cases hmk : m = k
      · subst hmk; simp [hp]
      · have h1 : (((k : Nat) : Int) == (m : Int)) = false := beq_eq_false_iff_ne.2 (by omega)
        rw [show decide (m < k + 1) = decide (m < k) from decide_eq_decide.2 (by omega)]
        simp [h1]
theorem goneE_zero (m : Int) (hs : List Hp) : goneE m (hs.take 0) = false := by simp [goneE]
theorem goneE_succ (m : Int) (hs : List Hp) {k : Nat} (h : k < hs.length) : goneE m (hs.take (k + 1)) = (goneE m (hs.take k) || (hs[k].e == m)) := by
  unfold goneE
  rw [List.take_succ_eq_append_getElem h, List.any_append]
  simp
theorem goneE_all (m : Int) (hs : List Hp) : goneE m (hs.take hs.length) = goneE m hs := by rw [List.take_length]
/-- The end of an edge from which an element leads along it. -/
def endOf (d : Int) (x : Ed) : Int := if d = 2 then x.t else x.f
theorem follB_end (d : Int) (x : Ed) : follB (endOf d x) d x = true := by
  unfold follB endOf
  by_cases h : d = 2
  · subst h; simp
  · rw [if_neg h]; simp [h]
theorem goneR {g : Gr} {e : El} {m : Nat} (hg : gv g = true) (he : elemV e = true) (hn : e.n = false) (hm : m < g.es.length) : goneE (m : Int) (hopsR g (endOf e.d g.es[m]) e) = edgeF g (m : Int) e := by
  rw [hopsR_yes (by rw [hg, he, hn]; rfl), goneN hm _ (Nat.le_refl _)]
  unfold edgeF hopB
  rw [hg, hn_at hm, he, hn, edAt_eq hm, follB_end, decide_eq_true hm]
  rfl
/-- Hops in both directions are those in one and those in the other, but for edges from the node to itself. -/
def El.dir (e : El) (d : Int) : El := ⟨e.n, e.v, e.l, e.c, d⟩
def loopH (es : List Ed) (node : Int) (h : Hp) : Bool := (es.getD h.e.toNat ⟨0, 0, ⟨#[]⟩, 0⟩).f == node && h.t == node
def loopC (es : List Ed) (node : Int) (hs : List Hp) : Nat := (hs.filter (loopH es node)).length
theorem hopsN_any (node : Int) (e : El) (es : List Ed) : ∀ k, k ≤ es.length →
    (hopsN node (e.dir 3) es k).length + loopC es node (hopsN node (e.dir 3) es k) = (hopsN node (e.dir 1) es k).length + (hopsN node (e.dir 2) es k).length
  | 0, _ => rfl
  | k + 1, hk => by
    have ih := hopsN_any node e es k (by omega)
    have hlt : k < es.length := hk
    obtain ⟨x, ex⟩ : ∃ x, x = es[k] := ⟨_, rfl⟩
    have hx : es.getD k ⟨0, 0, ⟨#[]⟩, 0⟩ = x := by simp [List.getD_eq_getElem?_getD, hlt, ex]
    have b : ∀ d, hopB node (e.dir d) x = (follB node d x && elemF e x.l x.n) := fun d => rfl
    have yes := fun d (h : hopB node (e.dir d) x = true) => hopsN_yes (node := node) (e := e.dir d) hlt (by rw [← ex]; exact h)
    have no := fun d (h : hopB node (e.dir d) x = false) => hopsN_no (node := node) (e := e.dir d) hlt (by rw [← ex]; exact h)
    cases hF : elemF e x.l x.n with
    | false =>
      rw [no 1 (by rw [b, hF]; simp), no 2 (by rw [b, hF]; simp), no 3 (by rw [b, hF]; simp)]
      exact ih
    | true =>
      cases h1 : (x.f == node) <;> cases h2 : (x.t == node)
      · rw [no 1 (by rw [b, hF]; unfold follB; rw [h1, h2]; rfl), no 2 (by rw [b, hF]; unfold follB; rw [h1, h2]; rfl), no 3 (by rw [b, hF]; unfold follB; rw [h1, h2]; rfl)]
        exact ih
      · rw [no 1 (by rw [b, hF]; unfold follB; rw [h1, h2]; rfl), yes 2 (by rw [b, hF]; unfold follB; rw [h1, h2]; rfl), yes 3 (by rw [b, hF]; unfold follB; rw [h1, h2]; rfl)]
        have hl : loopH es node ⟨(k : Int), follT node (e.dir 3).d es[k]⟩ = false := by unfold loopH; rw [show ((k : Int)).toNat = k from rfl, hx, h1]; rfl
        unfold loopC at ih ⊢
        rw [List.filter_append, List.filter_cons, hl]
        simp
        omega
      · rw [yes 1 (by rw [b, hF]; unfold follB; rw [h1, h2]; rfl), no 2 (by rw [b, hF]; unfold follB; rw [h1, h2]; rfl), yes 3 (by rw [b, hF]; unfold follB; rw [h1, h2]; rfl)]
        have hl : loopH es node ⟨(k : Int), follT node (e.dir 3).d es[k]⟩ = false := by
          unfold loopH
          rw [show ((k : Int)).toNat = k from rfl, hx, h1, ← ex]
          unfold follT
          rw [h1, show (e.dir 3).d = 3 from rfl]
          exact h2
        unfold loopC at ih ⊢
        rw [List.filter_append, List.filter_cons, hl]
        simp
        omega
      · rw [yes 1 (by rw [b, hF]; unfold follB; rw [h1, h2]; rfl), yes 2 (by rw [b, hF]; unfold follB; rw [h1, h2]; rfl), yes 3 (by rw [b, hF]; unfold follB; rw [h1, h2]; rfl)]
        have hl : loopH es node ⟨(k : Int), follT node (e.dir 3).d es[k]⟩ = true := by
          unfold loopH
          rw [show ((k : Int)).toNat = k from rfl, hx, h1, ← ex]
          unfold follT
          rw [h1, show (e.dir 3).d = 3 from rfl]
          exact h2
        unfold loopC at ih ⊢
        rw [List.filter_append, List.filter_cons, hl]
        simp
        omega
theorem elemV_dir {e : El} {d : Int} (h : elemV e = true) (hn : e.n = false) (hd : 1 ≤ d ∧ d ≤ 3) : elemV (e.dir d) = true := by
  unfold elemV at h ⊢
  simp only [Bool.and_eq_true] at h ⊢
  refine ⟨?_, h.2⟩
  unfold dirV
  rw [show (e.dir d).n = false from hn, show (e.dir d).d = d from rfl, decide_eq_false (p := d = 0) (by omega), decide_eq_true (p := 0 ≤ d) (by omega), decide_eq_true (p := d ≤ 3) (by omega)]
  rfl
theorem hopsR_any {g : Gr} {node : Int} {e : El} (he : elemV e = true) (hn : e.n = false) :
    (hopsR g node (e.dir 3)).length + loopC g.es node (hopsR g node (e.dir 3)) = (hopsR g node (e.dir 1)).length + (hopsR g node (e.dir 2)).length := by
  cases hg : gv g with
  | false => rw [hopsR_no (by rw [hg]; rfl), hopsR_no (by rw [hg]; rfl), hopsR_no (by rw [hg]; rfl)]; rfl
  | true =>
    have q : ∀ d, 1 ≤ d ∧ d ≤ 3 → hopsR g node (e.dir d) = hopsN node (e.dir d) g.es g.es.length := fun d hd => hopsR_yes (by rw [hg, elemV_dir he hn hd, show (e.dir d).n = false from hn]; rfl)
    rw [q 3 (by decide), q 1 (by decide), q 2 (by decide)]
    exact hopsN_any node e g.es g.es.length (Nat.le_refl _)
theorem loopC_zero (es : List Ed) (node : Int) (hs : List Hp) : loopC es node (hs.take 0) = 0 := by simp [loopC]
theorem loopC_yes {es : List Ed} {node : Int} {hs : List Hp} {k : Nat} (h : k < hs.length) (hl : loopH es node hs[k] = true) : loopC es node (hs.take (k + 1)) = loopC es node (hs.take k) + 1 := by
  unfold loopC
  rw [List.take_succ_eq_append_getElem h, List.filter_append, List.filter_cons, hl]
  simp
theorem loopC_no {es : List Ed} {node : Int} {hs : List Hp} {k : Nat} (h : k < hs.length) (hl : loopH es node hs[k] = false) : loopC es node (hs.take (k + 1)) = loopC es node (hs.take k) := by
  unfold loopC
  rw [List.take_succ_eq_append_getElem h, List.filter_append, List.filter_cons, hl]
  simp
theorem loopC_all (es : List Ed) (node : Int) (hs : List Hp) : loopC es node (hs.take hs.length) = loopC es node hs := by rw [List.take_length]
theorem loopC_le (es : List Ed) (node : Int) (hs : List Hp) : loopC es node hs ≤ hs.length := List.length_filter_le _ _
/-- The element of edges in a direction, without anything. -/
def emD (d : Int) : El := ⟨false, ⟨#[]⟩, noX, noX, d⟩
theorem emD_at (d : Int) (B : Nat) (w : World) : (emD d).At B w (.agg #[.bool false, .string ⟨#[]⟩, .int .i64 0, .string ⟨#[]⟩, .slice none 0 0, .int .i64 0, .string ⟨#[]⟩, .slice none 0 0, .int .i64 d]) :=
  ⟨_, _, rfl, ⟨none, 0, rfl, Nat.le_refl _, Nat.zero_le _, .inl rfl⟩, ⟨none, 0, rfl, Nat.le_refl _, Nat.zero_le _, .inl rfl⟩⟩
theorem emD_sm (d : Int) : (emD d).Sm := ⟨by show (ByteArray.mk #[]).size ≤ 1048576; decide, by show (ByteArray.mk #[]).size ≤ 1048576; decide, trivial, by show (ByteArray.mk #[]).size ≤ 1048576; decide, trivial⟩
theorem emD_v {d : Int} (h : d = 1 ∨ d = 2) : elemV (emD d) = true := by rcases h with rfl | rfl <;> rfl
theorem emD_len (node : Int) (d : Int) (p : Ed → Bool) (hp : ∀ x, follB node d x = p x) (es : List Ed) : ∀ k, k ≤ es.length → (hopsN node (emD d) es k).length = (pick p es k).length
  | 0, _ => rfl
  | k + 1, hk => by
    have ih := emD_len node d p hp es k (by omega)
    have hlt : k < es.length := hk
    have hb : hopB node (emD d) es[k] = p es[k] := by
      unfold hopB
      rw [show elemF (emD d) es[k].l es[k].n = true from rfl, show (emD d).d = d from rfl, hp]
      simp
    cases hc : p es[k] with
    | false => rw [hopsN_no hlt (hb.trans hc), pick_no hlt hc]; exact ih
    | true => rw [hopsN_yes hlt (hb.trans hc), pick_yes hlt hc]; simp [ih]
theorem emR_len {g : Gr} (node : Int) (hg : gv g = true) : (hopsR g node (emD 1)).length = (edgesOut g node).length := by
  rw [hopsR_yes (by rw [hg]; rfl)]
  unfold edgesOut
  rw [hg, if_pos rfl]
  exact emD_len node 1 (byOut node) (fun x => by unfold follB byOut; cases (x.f == node) <;> rfl) g.es _ (Nat.le_refl _)
theorem emL_len {g : Gr} (node : Int) (hg : gv g = true) : (hopsR g node (emD 2)).length = (edgesIn g node).length := by
  rw [hopsR_yes (by rw [hg]; rfl)]
  unfold edgesIn
  rw [hg, if_pos rfl]
  exact emD_len node 2 (byIn node) (fun x => by unfold follB byIn; cases (x.f == node) <;> cases (x.t == node) <;> rfl) g.es _ (Nat.le_refl _)
theorem wrap_loops {a b c d : Nat} (h1 : a ≤ 14) (h2 : b ≤ 14) (h : d + c = a + b) : (d : Int) = wrap64 (wrap64 ((a : Int) + (b : Int)) - (c : Int)) := by
  have e1 : wrap64 ((a : Int) + (b : Int)) = (a : Int) + (b : Int) := by unfold wrap64; omega
  rw [e1]
  have e2 : wrap64 ((a : Int) + (b : Int) - (c : Int)) = (a : Int) + (b : Int) - (c : Int) := by unfold wrap64; omega
  rw [e2]
  omega
theorem El.At.dirv {n : Bool} {v : ByteArray} {l c : Ex} {d : Int} {B : Nat} {w : World} {p p' : Option Addr} {c1 c2 : Nat} (h : (⟨n, v, l, c, d⟩ : El).At B w (.agg #[.bool n, .string v, .int .i64 l.op, .string l.a, .slice p l.ks.list.length c1, .int .i64 c.op, .string c.a, .slice p' c.ks.list.length c2, .int .i64 d])) (d' : Int) :
    ((⟨n, v, l, c, d⟩ : El).dir d').At B w (.agg #[.bool n, .string v, .int .i64 l.op, .string l.a, .slice p l.ks.list.length c1, .int .i64 c.op, .string c.a, .slice p' c.ks.list.length c2, .int .i64 d']) := by
  obtain ⟨k, k', e1, h2, h3⟩ := h
  cases e1
  exact ⟨_, _, rfl, h2, h3⟩
theorem El.Sm.dirv {e : El} (h : e.Sm) (d : Int) : (e.dir d).Sm := h
end Go.Proofs.YtghhabailgfelaaDoor
