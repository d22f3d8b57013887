/- Lemmas on the data and the memory of this program's values: several texts in one. -/
import Derived.Test.YtbbemeaojmfndaaDoorCopyX
import Derived.Test.YtbbemeaojmfndaaDoorM1q0p1
import Derived.Test.YtbbemeaojmfndaaDoorElV
import Derived.Test.YtbbemeaojmfndaaDoorHolds
import Derived.Test.YtbbemeaojmfndaaDoorExTo
import Derived.Test.YtbbemeaojmfndaaDoorM0q0p2
import Derived.Test.YtbbemeaojmfndaaDoorExV
namespace Go.Proofs.YtbbemeaojmfndaaDoor
open Go.RowKit

theorem cellAt' {w : World} {cs : Array Value} {T : TypeId} {i : Nat} {x : Value} (h : cs[i]? = some x) : (w.alloc (.cells cs T)).cell? ⟨w.heap.size, i, none⟩ = some x := (World.cell?_alloc_at cs T _ i rfl).trans h
noncomputable def mgX (a b : Ex) : Ex := if exNone a then b else if exNone b || exEq a b then a else ⟨4, ⟨#[]⟩, Fo.of [a, b]⟩
theorem mgX_b {a b : Ex} (h : exNone a = true) : mgX a b = b := by unfold mgX; rw [h]; rfl
theorem mgX_a {a b : Ex} (h : exNone a = false) (h2 : exNone b = true) : mgX a b = a := by unfold mgX; rw [h, h2]; rfl
theorem mgX_eq {a b : Ex} (h : exNone a = false) (h2 : exEq a b = true) : mgX a b = a := by unfold mgX; rw [h, h2, Bool.or_true]; rfl
theorem mgX_two {a b : Ex} (h : exNone a = false) (h2 : exNone b = false) (h3 : exEq a b = false) : mgX a b = ⟨4, ⟨#[]⟩, Fo.of [a, b]⟩ := by unfold mgX; rw [h, h2, h3]; rfl
theorem two_len (a b : Ex) : (Fo.of [a, b]).list.length = 2 := rfl
/-- Two expressions that are a call's own, laid one behind the other into a new block. -/
theorem both_own {a b : Ex} {pa pb : Option Addr} {ca cb : Nat} {Fa Fb : List Nat} {w : World} {T : TypeId} (ha : a.ks.Own w (.slice pa a.ks.list.length ca) Fa) (hb : b.ks.Own w (.slice pb b.ks.list.length cb) Fb) (hd : ∀ x ∈ Fa, x ∉ Fb) :
    (Fo.of [a, b]).Own (w.alloc (.cells #[.int .i64 a.op, .string a.a, .slice pa a.ks.list.length ca, .int .i64 b.op, .string b.a, .slice pb b.ks.list.length cb] T)) (.slice (some ⟨w.heap.size, 0, none⟩) 2 2) (w.heap.size :: (Fa ++ Fb)) := by
  have hbw : Below w.heap.size w (w.alloc (.cells #[.int .i64 a.op, .string a.a, .slice pa a.ks.list.length ca, .int .i64 b.op, .string b.a, .slice pb b.ks.list.length cb] T)) := (Below.refl _ _).alloc (Nat.le_refl _) _
  refine ⟨_, 2, by rw [two_len], by rw [two_len]; exact Nat.le_refl _, by decide, .inr ⟨w.heap.size, Fa ++ Fb, rfl, rfl, fun hm => ?_, by simp, fun o => World.frozen?_alloc_at _ _ _ _ rfl, ?_⟩⟩
  · rcases List.mem_append.1 hm with hm | hm
    · have := ha.lt _ hm; omega
    · have := hb.lt _ hm; omega
  · show (Fo.cons a.op a.a a.ks (.cons b.op b.a b.ks .nil)).ORow _ _ _
    exact Fo.orow_cons.2 ⟨(cellAt' (i := 0) rfl), (cellAt' (i := 1) rfl), _, Fa, Fb, rfl, hd, (cellAt' (i := 2) rfl), ha.below hbw, Fo.orow_cons.2 ⟨(cellAt' (i := 3) rfl), (cellAt' (i := 4) rfl), _, Fb, [], by simp, by simp, (cellAt' (i := 5) rfl), hb.below hbw, rfl⟩⟩
/-- What a call of mergeExprs, or its model, leaves. -/
def MgPost (a b : Ex) (w : World) (en : Ending) (w' : World) : Prop :=
  ∃ p c F, en = .returned (.agg #[.int .i64 (mgX a b).op, .string (mgX a b).a, .slice p (mgX a b).ks.list.length c]) ∧ (mgX a b).ks.Own w' (.slice p (mgX a b).ks.list.length c) F ∧ (∀ x ∈ F, w.heap.size ≤ x) ∧ Below w.heap.size w w'
theorem MgPost.of {a b : Ex} {w w' : World} {p : Option Addr} {c : Nat} {F : List Nat} {o : Int} {s : ByteArray} {f : Fo} (he : mgX a b = ⟨o, s, f⟩) (ho : f.Own w' (.slice p f.list.length c) F) (hF : ∀ x ∈ F, w.heap.size ≤ x) (hb : Below w.heap.size w w') :
    MgPost a b w (.returned (.agg #[.int .i64 o, .string s, .slice p f.list.length c])) w' := by
  unfold MgPost
  rw [he]
  exact ⟨p, c, F, rfl, ho, hF, hb⟩
theorem mgX_ks {a b : Ex} {m : Nat} (ha : a.ks.size ≤ m) (hb : b.ks.size ≤ m) : (mgX a b).ks.size ≤ 2 * m + 2 := by
  unfold mgX
  split
  · omega
  · split
    · omega
    · show (Fo.cons a.op a.a a.ks (.cons b.op b.a b.ks .nil)).size ≤ _
      simp only [Fo.size]
      omega
theorem mgX_sml {a b : Ex} (ha : a.a.size ≤ 1048576 ∧ a.ks.Sm) (hb : b.a.size ≤ 1048576 ∧ b.ks.Sm) : (mgX a b).a.size ≤ 1048576 ∧ (mgX a b).ks.Sm := by
  unfold mgX
  split
  · exact hb
  · split
    · exact ha
    · exact ⟨by show (0 : Nat) ≤ _; omega, ha.1, ha.2, hb.1, hb.2, trivial⟩
end Go.Proofs.YtbbemeaojmfndaaDoor
namespace Go.Proofs.YtbbemeaojmfndaaDoor
open Go.RowKit

def leafP (o : Int) (a : ByteArray) (neg : Bool) : Ex := if neg then ⟨3, ⟨#[]⟩, Fo.of [⟨o, a, .nil⟩]⟩ else ⟨o, a, .nil⟩
def pushN (neg : Bool) (o : Int) (a : ByteArray) (l : Bool → List Ex) : Ex :=
  if o = 3 then (l (!neg)).getD 0 ⟨0, a, .nil⟩
  else if o = 4 ∨ o = 5 then ⟨if neg then 9 - o else o, ⟨#[]⟩, Fo.of [(l neg).getD 0 ⟨0, a, .nil⟩, (l neg).getD 1 ⟨0, a, .nil⟩]⟩
  else leafP o a neg
def Fo.push : Fo → Bool → List Ex
  | .nil, _ => []
  | .cons o a k r, neg => pushN neg o a k.push :: r.push neg
def Ex.push (e : Ex) (neg : Bool) : Ex := pushN neg e.op e.a e.ks.push
theorem Fo.push_list (f : Fo) (neg : Bool) : f.push neg = f.list.map fun e => e.push neg := by
  induction f with
  | nil => rfl
  | cons o a k r _ ih => simp only [Fo.push, Fo.list, ih, List.map_cons]; rfl
theorem Fo.push_get (f : Fo) (k : Nat) (hk : k < f.list.length) (neg : Bool) (d : Ex) : (f.push neg).getD k d = f.list[k].push neg := by
  rw [Fo.push_list, List.getD_eq_getElem?_getD, List.getElem?_map, List.getElem?_eq_getElem hk]; rfl
theorem Ex.push_leaf {e : Ex} (neg : Bool) (h : e.op = 1 ∨ e.op = 2) : e.push neg = leafP e.op e.a neg := by
  unfold Ex.push pushN
  rw [if_neg (by omega), if_neg (by omega)]
theorem Ex.push_not {e : Ex} (neg : Bool) (h : e.op = 3) (hl : e.ks.list.length = 1) : e.push neg = e.ks.list[0].push (!neg) := by
  show pushN _ _ _ _ = _
  unfold pushN
  rw [if_pos h, Fo.push_get e.ks 0 (by omega)]
theorem Ex.push_two {e : Ex} (neg : Bool) (h : e.op = 4 ∨ e.op = 5) (hl : e.ks.list.length = 2) : e.push neg = ⟨if neg then 9 - e.op else e.op, ⟨#[]⟩, Fo.of [e.ks.list[0].push neg, e.ks.list[1].push neg]⟩ := by
  show pushN _ _ _ _ = _
  unfold pushN
  rw [if_neg (by omega), if_pos h, Fo.push_get e.ks 0 (by omega), Fo.push_get e.ks 1 (by omega)]

theorem Ex.Has.below {e : Ex} {v : Value} {F : List Nat} {w w' : World} (h : e.Has v F w) (hb : Below w.heap.size w w') : e.Has v F w' := h.chg (Chg.of_below hb []) (by simp)
theorem Ex.Has.lt {e : Ex} {v : Value} {F : List Nat} {w : World} (h : e.Has v F w) : ∀ x ∈ F, x < w.heap.size := by
  obtain ⟨k, _, h⟩ := h; exact h.lt
theorem cellsAt {w : World} {cs : Array Value} {T : TypeId} (i : Nat) : (w.alloc (.cells cs T)).cell? ⟨w.heap.size, i, none⟩ = cs[i]? := World.cell?_alloc_at cs T _ i rfl
/-- A row of one that was made now. -/
theorem own_one {e : Ex} {k : Value} {F : List Nat} {w : World} {T : TypeId} (h : e.ks.Own w k F) :
    (Fo.of [e]).Own (w.alloc (.cells #[.int .i64 e.op, .string e.a, k] T)) (.slice (some ⟨w.heap.size, 0, none⟩) 1 1) (w.heap.size :: F) := by
  have hb : Below w.heap.size w (w.alloc (.cells #[.int .i64 e.op, .string e.a, k] T)) := (Below.refl _ _).alloc (Nat.le_refl _) _
  have hlt := h.lt
  refine ⟨_, 1, by rw [Fo.list_of]; rfl, by rw [Fo.list_of]; exact Nat.le_refl _, by decide, .inr ⟨w.heap.size, F, rfl, rfl, fun hx => by have := hlt _ hx; omega, by simp, fun o => World.frozen?_alloc_at _ _ _ _ rfl, ?_⟩⟩
  refine Fo.orow_cons.2 ⟨?_, ?_, k, F, [], by simp, by simp, ?_, h.below hb, rfl⟩
  · exact cellsAt 0
  · exact cellsAt 1
  · exact cellsAt 2
/-- A row of two that was made now. -/
theorem own_two {e f : Ex} {k l : Value} {F G : List Nat} {w : World} {T : TypeId} (h : e.ks.Own w k F) (g : f.ks.Own w l G) (hd : ∀ x ∈ F, x ∉ G) :
    (Fo.of [e, f]).Own (w.alloc (.cells #[.int .i64 e.op, .string e.a, k, .int .i64 f.op, .string f.a, l] T)) (.slice (some ⟨w.heap.size, 0, none⟩) 2 2) (w.heap.size :: (F ++ G)) := by
  have hb : Below w.heap.size w (w.alloc (.cells #[.int .i64 e.op, .string e.a, k, .int .i64 f.op, .string f.a, l] T)) := (Below.refl _ _).alloc (Nat.le_refl _) _
  have h1 := h.lt
  have h2 := g.lt
  refine ⟨_, 2, by rw [Fo.list_of]; rfl, by rw [Fo.list_of]; exact Nat.le_refl _, by decide, .inr ⟨w.heap.size, F ++ G, rfl, rfl, fun hx => ?_, by simp, fun o => World.frozen?_alloc_at _ _ _ _ rfl, ?_⟩⟩
  · rcases List.mem_append.1 hx with hx | hx
    · have := h1 _ hx; omega
    · have := h2 _ hx; omega
  · refine Fo.orow_cons.2 ⟨cellsAt 0, cellsAt 1, k, F, G, rfl, hd, cellsAt 2, h.below hb, ?_⟩
    refine Fo.orow_cons.2 ⟨cellsAt 3, cellsAt 4, l, G, [], by simp, by simp, cellsAt 5, g.below hb, rfl⟩
end Go.Proofs.YtbbemeaojmfndaaDoor
namespace Go.Proofs.YtbbemeaojmfndaaDoor
open Go.RowKit

def s1 (c : UInt8) : ByteArray := ⟨#[c]⟩
/-- A part's text, in brackets if it binds less than the operation l. -/
def partT (o : Int) (t : ByteArray) (l : Int) : ByteArray := if l < o then s1 40 ++ t ++ s1 41 else t
def nodeT (o : Int) (a : ByteArray) (l : List (Int × ByteArray)) : ByteArray :=
  if o = 2 then s1 37
  else if o = 3 then s1 33 ++ partT (l.getD 0 (0, a)).1 (l.getD 0 (0, a)).2 3
  else if o = 4 then partT (l.getD 0 (0, a)).1 (l.getD 0 (0, a)).2 4 ++ s1 38 ++ partT (l.getD 1 (0, a)).1 (l.getD 1 (0, a)).2 3
  else if o = 5 then partT (l.getD 0 (0, a)).1 (l.getD 0 (0, a)).2 5 ++ s1 124 ++ partT (l.getD 1 (0, a)).1 (l.getD 1 (0, a)).2 4
  else a
def Fo.txt : Fo → List (Int × ByteArray)
  | .nil => []
  | .cons o a k r => (o, nodeT o a k.txt) :: r.txt
def Ex.txt (e : Ex) : ByteArray := nodeT e.op e.a e.ks.txt
def Ex.part (e : Ex) (l : Int) : ByteArray := partT e.op e.txt l
theorem Fo.txt_list (f : Fo) : f.txt = f.list.map fun e => (e.op, e.txt) := by
  induction f with
  | nil => rfl
  | cons o a k r _ ih => simp only [Fo.txt, Fo.list, ih, List.map_cons]; rfl
theorem Fo.txt_get (f : Fo) (k : Nat) (hk : k < f.list.length) (d : Int × ByteArray) : f.txt.getD k d = (f.list[k].op, f.list[k].txt) := by
  rw [Fo.txt_list, List.getD_eq_getElem?_getD, List.getElem?_map, List.getElem?_eq_getElem hk]; rfl
theorem Ex.txt_atom {e : Ex} (h : e.op = 1) : e.txt = e.a := by
  unfold Ex.txt nodeT
  rw [if_neg (by omega), if_neg (by omega), if_neg (by omega), if_neg (by omega)]
theorem Ex.txt_any {e : Ex} (h : e.op = 2) : e.txt = s1 37 := by unfold Ex.txt nodeT; rw [if_pos h]
theorem Ex.txt_not {e : Ex} (h : e.op = 3) (hl : e.ks.list.length = 1) : e.txt = s1 33 ++ e.ks.list[0].part 3 := by
  show nodeT _ _ _ = _
  unfold nodeT
  rw [if_neg (by omega), if_pos h, Fo.txt_get e.ks 0 (by omega)]; rfl
theorem Ex.txt_and {e : Ex} (h : e.op = 4) (hl : e.ks.list.length = 2) : e.txt = e.ks.list[0].part 4 ++ s1 38 ++ e.ks.list[1].part 3 := by
  show nodeT _ _ _ = _
  unfold nodeT
  rw [if_neg (by omega), if_neg (by omega), if_pos h, Fo.txt_get e.ks 0 (by omega), Fo.txt_get e.ks 1 (by omega)]; rfl
theorem Ex.txt_or {e : Ex} (h : e.op = 5) (hl : e.ks.list.length = 2) : e.txt = e.ks.list[0].part 5 ++ s1 124 ++ e.ks.list[1].part 4 := by
  show nodeT _ _ _ = _
  unfold nodeT
  rw [if_neg (by omega), if_neg (by omega), if_neg (by omega), if_pos h, Fo.txt_get e.ks 0 (by omega), Fo.txt_get e.ks 1 (by omega)]; rfl
theorem s1_size (c : UInt8) : (s1 c).size = 1 := rfl
theorem partT_size (o : Int) (t : ByteArray) (l : Int) : (partT o t l).size ≤ t.size + 2 := by
  unfold partT
  split
  · rw [ByteArray.size_append, ByteArray.size_append, s1_size, s1_size]; omega
  · omega
theorem lv_size {s : ByteArray} (h : lv s = true) : s.size ≤ 6 := by
  unfold lv lvL at h
  simp only [Bool.and_eq_true, decide_eq_true_eq] at h
  have := h.1.2
  rw [len_toList] at this; exact this
theorem atom_size {kind : Int} {a : ByteArray} (h : atomB kind a = true) : a.size ≤ 6 := by
  unfold atomB at h
  split at h
  · exact lv_size h
  · unfold condB at h
    obtain ⟨⟨s, n⟩, hc⟩ := Option.isSome_iff_exists.1 h
    rw [cond_of] at hc
    cases hl : a.data.toList with
    | nil => rw [hl] at hc; cases hc
    | cons c r =>
      rw [hl] at hc
      have hs := size_of hl
      by_cases hcs : isS c = true
      · simp only [hcs, if_true] at hc
        obtain ⟨m, hm, e⟩ := Option.map_eq_some_iff.1 hc
        rcases num99_cases hm with ⟨d, rfl, _⟩ | ⟨d, e, rfl, _⟩ <;> simp at hs <;> omega
      · simp [hcs] at hc
theorem Ex.txt_size (kind : Int) (d : Nat) : ∀ e : Ex, e.okB kind d = true → e.txt.size + 5 ≤ 11 * 2 ^ d := by
  induction d with
  | zero => intro e h; rw [Ex.okB_zero] at h; cases h
  | succ d ih =>
    intro e h
    obtain ⟨_, htop, hk⟩ := Ex.okB_parts h
    simp only [Nat.add_sub_cancel] at hk
    have hp : 1 ≤ 2 ^ d := Nat.one_le_two_pow
    rw [Nat.pow_succ]
    rcases topB_cases htop with ⟨oo, hl, hat⟩ | ⟨oo, hl⟩ | ⟨oo, hl⟩ | ⟨oo, hl⟩ | ⟨oo, hl⟩
    · rw [Ex.txt_atom oo]; have := atom_size hat; omega
    · rw [Ex.txt_any oo, s1_size]; omega
    · rw [Ex.txt_not oo hl, ByteArray.size_append, s1_size]
      have h1 := ih _ (hk 0 (by omega))
      have h2 := partT_size e.ks.list[0].op e.ks.list[0].txt 3
      unfold Ex.part; omega
    · rw [Ex.txt_and oo hl, ByteArray.size_append, ByteArray.size_append, s1_size]
      have h1 := ih _ (hk 0 (by omega))
      have h2 := partT_size e.ks.list[0].op e.ks.list[0].txt 4
      have h3 := ih _ (hk 1 (by omega))
      have h4 := partT_size e.ks.list[1].op e.ks.list[1].txt 3
      unfold Ex.part; omega
    · rw [Ex.txt_or oo hl, ByteArray.size_append, ByteArray.size_append, s1_size]
      have h1 := ih _ (hk 0 (by omega))
      have h2 := partT_size e.ks.list[0].op e.ks.list[0].txt 5
      have h3 := ih _ (hk 1 (by omega))
      have h4 := partT_size e.ks.list[1].op e.ks.list[1].txt 4
      unfold Ex.part; omega
theorem Ex.txt_small {kind : Int} {d : Nat} {e : Ex} (h : e.okB kind d = true) (hd : d ≤ 12) : e.txt.size ≤ 50000 := by
  have h1 := Ex.txt_size kind d e h
  have h2 : 2 ^ d ≤ 2 ^ 12 := Nat.pow_le_pow_right (by decide) hd
  have h3 : (2 : Nat) ^ 12 = 4096 := rfl
  omega
def fmtE (kind : Int) (e : Ex) : ByteArray := if exV kind e then e.txt else ⟨#[]⟩
end Go.Proofs.YtbbemeaojmfndaaDoor
namespace Go.Proofs.YtbbemeaojmfndaaDoor
open Go.RowKit

/-- Operations are small, atoms are short. -/
def Fo.Dn : Fo → Prop
  | .nil => True
  | .cons o a k r => (-1000 ≤ o ∧ o ≤ 1000 ∧ a.size ≤ 100) ∧ k.Dn ∧ r.Dn
def Ex.Dn (e : Ex) (n : Nat) : Prop := (-1000 ≤ e.op ∧ e.op ≤ 1000 ∧ e.a.size ≤ 100) ∧ e.ks.Dn ∧ e.ks.size ≤ n
theorem Fo.Dn.sm {f : Fo} (h : f.Dn) : f.Sm := by
  induction f with
  | nil => trivial
  | cons o a k r ih1 ih2 => obtain ⟨h1, h2, h3⟩ := h; exact ⟨by omega, ih1 h2, ih2 h3⟩
theorem Fo.Dn.ok {f : Fo} (h : f.Dn) : f.Ok := by
  induction f with
  | nil => trivial
  | cons o a k r ih1 ih2 => obtain ⟨h1, h2, h3⟩ := h; exact ⟨by unfold I64; omega, by unfold maxLen; omega, ih1 h2, ih2 h3⟩
theorem Fo.dn_app {f g : Fo} : (f.app g).Dn ↔ f.Dn ∧ g.Dn := by
  induction f with
  | nil => simp [Fo.app, Fo.Dn]
  | cons o a k r _ ih => simp only [Fo.app, Fo.Dn, ih, and_assoc]
theorem Fo.Dn.get {f : Fo} (h : f.Dn) (k : Nat) (hk : k < f.list.length) : f.list[k].Dn f.list[k].ks.size := by
  obtain ⟨g, e, r, h1, _, h3⟩ := f.part k hk
  rw [h1, Fo.dn_app] at h
  obtain ⟨_, h4, h5, _⟩ := h
  rw [← h3]
  exact ⟨h4, h5, Nat.le_refl _⟩
theorem Ex.Dn.mono {e : Ex} {n m : Nat} (h : e.Dn n) (hl : n ≤ m) : e.Dn m := ⟨h.1, h.2.1, Nat.le_trans h.2.2 hl⟩
theorem Ex.Dn.kid {e : Ex} {n : Nat} (h : e.Dn n) (k : Nat) (hk : k < e.ks.list.length) : e.ks.list[k].Dn (n - 1) :=
  (h.2.1.get k hk).mono (by have := e.ks.size_get k hk; have := h.2.2; omega)
theorem Ex.dn_leaf {o : Int} {a : ByteArray} (h : -1000 ≤ o ∧ o ≤ 1000 ∧ a.size ≤ 100) : (⟨o, a, .nil⟩ : Ex).Dn 0 := ⟨h, trivial, Nat.le_refl _⟩
theorem Ex.dn_one {o : Int} {a : ByteArray} {e : Ex} {n : Nat} (h : -1000 ≤ o ∧ o ≤ 1000 ∧ a.size ≤ 100) (he : e.Dn n) : (⟨o, a, Fo.of [e]⟩ : Ex).Dn (n + 1) :=
  ⟨h, ⟨he.1, he.2.1, trivial⟩, by have := he.2.2; simp only [Fo.of, Fo.size]; omega⟩
theorem Ex.dn_two {o : Int} {a : ByteArray} {e f : Ex} {n m : Nat} (h : -1000 ≤ o ∧ o ≤ 1000 ∧ a.size ≤ 100) (he : e.Dn n) (hf : f.Dn m) : (⟨o, a, Fo.of [e, f]⟩ : Ex).Dn (n + m + 2) :=
  ⟨h, ⟨he.1, he.2.1, hf.1, hf.2.1, trivial⟩, by have := he.2.2; have := hf.2.2; simp only [Fo.of, Fo.size]; omega⟩

/-- A part of a row has been stored anew. -/
theorem Fo.Own.store {w w3 : World} {f : Fo} {b n cap : Nat} {F G : List Nat} {k : Nat} {y : Ex} {u : Value} (h : f.Own w (.slice (some ⟨b, 0, none⟩) n cap) F) (hk : k < f.list.length) (hy : y.ks.Own w u G) (hG : ∀ x ∈ G, x ∉ F)
    (hc : Chg [b] w w3) (c0 : w3.cell? ⟨b, k * 3, none⟩ = some (.int .i64 y.op)) (c1 : w3.cell? ⟨b, k * 3 + 1, none⟩ = some (.string y.a)) (c2 : w3.cell? ⟨b, k * 3 + 2, none⟩ = some u)
    (hoff : ∀ i, i < k * 3 ∨ k * 3 + 3 ≤ i → w3.cell? ⟨b, i, none⟩ = w.cell? ⟨b, i, none⟩) (hfz : ∀ o, w3.frozen? ⟨b, o, none⟩ = false) :
    ∃ (f' : Fo) (F' : List Nat), f'.Own w3 (.slice (some ⟨b, 0, none⟩) n cap) F' ∧ (∀ x ∈ F', x ∈ F ∨ x ∈ G) ∧ f'.list.length = n ∧ (f.Dn → y.Dn y.ks.size → f'.Dn) ∧ f'.size + f.list[k].ks.size = f.size + y.ks.size := by
  obtain ⟨p, cap', e1, h2, h3, h4⟩ := h
  cases e1
  rcases h4 with ⟨h4, _⟩ | ⟨b', F1, e2, rfl, hb1, hb2, hfz0, hrow⟩
  · rw [h4] at hk; simp at hk
  cases e2
  obtain ⟨g, e, r, hf, hg, he⟩ := f.part k hk
  have hrow' := hrow
  rw [hf] at hrow'
  obtain ⟨Fg, F2, rfl, hd1, hrg, hrr⟩ := Fo.orow_app.1 hrow'
  obtain ⟨q0, q1, vk, Fk, Fr, rfl, hd2, q2, hko, hrest⟩ := Fo.orow_cons.1 hrr
  simp only [List.mem_append, List.mem_cons, not_or] at hb1 hG hd1 hd2
  have hlen : (g.app (.cons y.op y.a y.ks r)).list.length = f.list.length := by
    conv => rhs; rw [hf]
    rw [Fo.list_app, Fo.list_app]; simp [Fo.list]
  have hyl := hy.lt
  refine ⟨g.app (.cons y.op y.a y.ks r), b :: (Fg ++ (G ++ Fr)), ⟨_, cap, by rw [hlen], by rw [hlen]; exact h2, h3, .inr ⟨b, _, rfl, rfl, ?_, Nat.lt_of_lt_of_le hb2 hc.size, hfz, ?_⟩⟩, ?_, hlen, ?_, ?_⟩
  · simp only [List.mem_append, not_or]
    exact ⟨hb1.1, fun hm => (hG b hm).1 rfl, hb1.2.2⟩
  · refine Fo.orow_app.2 ⟨Fg, G ++ Fr, rfl, fun x hx hx2 => ?_, hrg.chg hc (fun x hx hm => ?_) (fun i hi => hoff i (.inl (by rw [hg] at hi; exact hi))), ?_⟩
    · rcases List.mem_append.1 hx2 with hx2 | hx2
      · exact (hG x hx2).2.1 hx
      · exact (hd1 x hx).2 hx2
    · rw [List.mem_singleton] at hm; subst hm; exact hb1.1 hx
    · refine Fo.orow_cons.2 ⟨?_, ?_, u, G, Fr, rfl, fun x hx hx2 => (hG x hx).2.2.2 hx2, ?_, hy.chg hc (fun x hx hm => ?_), hrest.chg hc (fun x hx hm => ?_) (fun i hi => ?_)⟩
      · show w3.cell? ⟨b, 0 + g.list.length * 3, none⟩ = _; rw [hg, Nat.zero_add]; exact c0
      · show w3.cell? ⟨b, 1 + g.list.length * 3, none⟩ = _; rw [hg, Nat.add_comm]; exact c1
      · show w3.cell? ⟨b, 2 + g.list.length * 3, none⟩ = _; rw [hg, Nat.add_comm]; exact c2
      · rw [List.mem_singleton] at hm; subst hm; exact (hG _ hx).1 rfl
      · rw [List.mem_singleton] at hm; subst hm; exact hb1.2.2 hx
      · exact hoff _ (.inr (by rw [hg]; omega))
  · intro x hx
    simp only [List.mem_cons, List.mem_append] at hx ⊢
    rcases hx with hx | hx | hx | hx
    · exact .inl (.inl hx)
    · exact .inl (.inr (.inl hx))
    · exact .inr hx
    · exact .inl (.inr (.inr (.inr hx)))
  · intro hfd hyd
    rw [hf, Fo.dn_app] at hfd
    exact Fo.dn_app.2 ⟨hfd.1, hyd.1, hyd.2.1, hfd.2.2.2⟩
  · rw [← he]
    have e5 : f.size = (g.app (.cons e.op e.a e.ks r)).size := by rw [← hf]
    rw [e5, Fo.size_app, Fo.size_app]
    simp only [Fo.size]; omega
/-- The three stores of a part, as one change. -/
theorem store3 {w : World} {b o : Nat} {x0 x1 x2 y0 y1 y2 : Value} (c0 : w.cell? ⟨b, o, none⟩ = some x0) (c1 : w.cell? ⟨b, o + 1, none⟩ = some x1) (c2 : w.cell? ⟨b, o + 2, none⟩ = some x2) (hfz : ∀ i, w.frozen? ⟨b, i, none⟩ = false) :
    let w3 := ((w.setCell ⟨b, o, none⟩ y0).setCell ⟨b, o + 1, none⟩ y1).setCell ⟨b, o + 2, none⟩ y2
    Chg [b] w w3 ∧ w3.cell? ⟨b, o, none⟩ = some y0 ∧ w3.cell? ⟨b, o + 1, none⟩ = some y1 ∧ w3.cell? ⟨b, o + 2, none⟩ = some y2 ∧ (∀ i, i < o ∨ o + 3 ≤ i → w3.cell? ⟨b, i, none⟩ = w.cell? ⟨b, i, none⟩) ∧ ∀ i, w3.frozen? ⟨b, i, none⟩ = false := by
  refine ⟨(((Chg.refl _ _).setCell (by simp) _).setCell (by simp) _).setCell (by simp) _, ?_, ?_, ?_, fun i hi => ?_, fun i => ?_⟩
  · exact (set_near _ _ _ _ _ (by omega)).trans ((set_near _ _ _ _ _ (by omega)).trans (set_same _ _ _ _ _ c0))
  · exact (set_near _ _ _ _ _ (by omega)).trans (set_same _ _ _ _ _ ((set_near _ _ _ _ _ (by omega)).trans c1))
  · exact set_same _ _ _ _ _ ((set_near _ _ _ _ _ (by omega)).trans ((set_near _ _ _ _ _ (by omega)).trans c2))
  · exact (set_near _ _ _ _ _ (by omega)).trans ((set_near _ _ _ _ _ (by omega)).trans (set_near _ _ _ _ _ (by omega)))
  · simpa [go_sem] using hfz i
/-- A part's cells, in memory of the call's own. -/
theorem Fo.Own.kid {w : World} {f : Fo} {p : Option Addr} {n cap : Nat} {F : List Nat} (h : f.Own w (.slice p n cap) F) {k : Nat} (hk : k < f.list.length) :
    ∃ b q m c, p = some ⟨b, 0, none⟩ ∧ b ∈ F ∧ b < w.heap.size ∧ (∀ o, w.frozen? ⟨b, o, none⟩ = false) ∧ w.cell? ⟨b, k * 3, none⟩ = some (.int .i64 f.list[k].op) ∧ w.cell? ⟨b, k * 3 + 1, none⟩ = some (.string f.list[k].a) ∧
      w.cell? ⟨b, k * 3 + 2, none⟩ = some (.slice q m c) ∧ f.list[k].ks.In w.heap.size w (.slice q m c) := by
  obtain ⟨b', off', q, m, c, e1, _, g0, g1, g2, g3⟩ := h.in.get k hk
  obtain ⟨p', cap', e2, _, _, h4⟩ := h
  cases e2
  rcases h4 with ⟨h4, _⟩ | ⟨b, F1, e3, rfl, _, hb, hfz, _⟩
  · rw [h4] at hk; simp at hk
  rw [e1] at e3
  cases e3
  simp only [Nat.zero_add] at g0 g1 g2
  exact ⟨b', q, m, c, e1, by simp, hb, hfz, g0, g1, g2, g3⟩
theorem CpInv.ext {f : Fo} {lo : Nat} {w : World} {k : Nat} {v : Value} (h : CpInv f lo w k v) (x : Fo) : CpInv (f.app x) lo w k v := by
  obtain ⟨g, h, xs, Fs, Fd, h1, h2⟩ := h
  exact ⟨g, h.app x, xs, Fs, Fd, by rw [h1, Fo.app_assoc], h2⟩

/-- Numbers from lo to hi. -/
def rngP (lo hi : Int) (v : Value) : Prop := ∃ z : Int, v = .int .i64 z ∧ lo ≤ z ∧ z ≤ hi
def rngB (lo hi : Int) (v : Value) : Bool := match v with | .int .i64 z => decide (lo ≤ z) && decide (z ≤ hi) | _ => false
theorem rngB_spec (lo hi : Int) (v : Value) (h : rngB lo hi v = true) : rngP lo hi v := by
  unfold rngB at h
  split at h
  · simp at h; exact ⟨_, rfl, h.1, h.2⟩
  · cases h

set_option maxHeartbeats 1000000 in
theorem num_rng (lo hi : Int) (a N b n cap : Nat) (w : World) (h : Dr w a N) (hN : N ≤ 999000) (hc : Cs (rngP lo hi) w b n) (hn : 0 < n) (hab : b ≠ a) :
    Calls Tryd.prog 53 #[.pointer (some ⟨a, 0, none⟩), .slice (some ⟨b, 0, none⟩) n cap] w fun e w' => ∃ z : Int, e = .returned (.int .i64 z) ∧ (lo ≤ z ∧ z ≤ hi) ∧ Dr w' a (N + 1) ∧ Chg [a] w w' := by
  go_enter Tryd.func53, Tryd.ntmps53
  have HC := Lib.hid hc
  clear hc
  go_wp2_with fail
  refine (pick_nat n a N _ h hN hn).mono ?_
  rintro e w1 ⟨q, rfl, hq1, hr, hch⟩
  obtain ⟨v, ⟨z, rfl, hz⟩, hcell⟩ := (HC.out.chg hch (by simpa using hab)).2 q hq1
  have HR := Lib.hid hr
  have HCH := Lib.hid hch
  have HZ := Lib.hid hz
  clear hr hch hz
  go_wp2_with fail
  go_ret
  exact ⟨z, rfl, HZ.out, HR.out, HCH.out⟩
end Go.Proofs.YtbbemeaojmfndaaDoor
