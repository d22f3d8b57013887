/- Lemmas on the data and the memory of this program's values: several texts in one. -/
import Derived.Test.YtbbemeaojmfndaaDoorPushN
import Derived.Test.YtbbemeaojmfndaaDoorSHolds
import Derived.Test.YtbbemeaojmfndaaDoorM4q0p1
namespace Go.Proofs.YtbbemeaojmfndaaDoor
open Go.RowKit

def anyE : Ex := ⟨2, ⟨#[]⟩, .nil⟩
def notE (e : Ex) : Ex := ⟨3, ⟨#[]⟩, Fo.of [e]⟩
def twoE (o : Int) (e f : Ex) : Ex := ⟨o, ⟨#[]⟩, Fo.of [e, f]⟩
theorem anyE_in (B : Nat) (w : World) : anyE.At B w (.agg #[.int .i64 2, .string ⟨#[]⟩, .slice none 0 0]) := ⟨_, rfl, none, 0, rfl, Nat.le_refl _, Nat.zero_le _, .inl rfl⟩
theorem lv_empty {s : ByteArray} (h : s.size = 0) : lv s = false := by
  have hl : s.data.toList.length = 0 := h
  unfold lv lvL
  rw [hl]; rfl
theorem exV_any (kind : Int) (hk : kind = 1 ∨ kind = 2) : exV kind anyE = true := by
  rcases hk with rfl | rfl <;> decide
theorem nholds_any (n : Int) : nholds anyE n = nm n := by
  unfold nholds
  rw [exV_any 2 (.inr rfl), Ex.hold_any _ _ rfl]; simp
theorem lholds_any (s : ByteArray) : lholds anyE s = lv s := by
  unfold lholds
  rw [exV_any 1 (.inl rfl), Ex.hold_any _ _ rfl]
  by_cases h : s.size = 0
  · rw [lv_empty h]; simp [h]
  · unfold lbl; simp [h]
theorem Fo.okB_mono {kind : Int} {f : Fo} : ∀ {d d' : Nat}, f.okB kind d = true → d ≤ d' → f.okB kind d' = true := by
  induction f with
  | nil => intros; rfl
  | cons o a k r ihk ihr =>
    intro d d' h hl
    unfold Fo.okB at h ⊢
    simp only [Bool.and_eq_true, decide_eq_true_eq] at h ⊢
    exact ⟨⟨by omega, h.1.2.1, ihk h.1.2.2 (by omega)⟩, ihr h.2 hl⟩
theorem Ex.okB_mono {kind : Int} {e : Ex} {d d' : Nat} (h : e.okB kind d = true) (hl : d ≤ d') : e.okB kind d' = true := by
  unfold Ex.okB at h ⊢
  simp only [Bool.and_eq_true, decide_eq_true_eq] at h ⊢
  exact ⟨by omega, h.2.1, Fo.okB_mono h.2.2 (by omega)⟩
theorem exV_parts {kind : Int} {e : Ex} (h : exV kind e = true) : (kind = 1 ∨ kind = 2) ∧ e.okB kind 12 = true ∧ e.size ≤ 20 := by
  unfold exV at h
  simpa using h
theorem exV_mk {kind : Int} {e : Ex} (h1 : kind = 1 ∨ kind = 2) (h2 : e.okB kind 12 = true) (h3 : e.size ≤ 20) : exV kind e = true := by
  unfold exV
  simp [h1, h2, h3]
theorem exV_kid {kind : Int} {e : Ex} (h : exV kind e = true) (k : Nat) (hk : k < e.ks.list.length) : exV kind e.ks.list[k] = true := by
  obtain ⟨h1, h2, h3⟩ := exV_parts h
  obtain ⟨_, _, h4⟩ := Ex.okB_parts h2
  refine exV_mk h1 (Ex.okB_mono (h4 k hk) (by omega)) ?_
  have := e.ks.size_get k hk
  unfold Ex.size at *
  omega
theorem exV_not {kind : Int} {e : Ex} (h : exV kind (notE e) = true) : exV kind e = true := by
  have := exV_kid h 0 (by simp [notE, Fo.list_of])
  simpa [notE, Fo.list_of] using this
theorem exV_two {kind o : Int} {e f : Ex} (h : exV kind (twoE o e f) = true) : exV kind e = true ∧ exV kind f = true := by
  have h0 := exV_kid h 0 (by simp [twoE, Fo.list_of])
  have h1 := exV_kid h 1 (by simp [twoE, Fo.list_of])
  exact ⟨by simpa [twoE, Fo.list_of] using h0, by simpa [twoE, Fo.list_of] using h1⟩
theorem hold_notE (atom : ByteArray → Bool) (any : Bool) (e : Ex) : (notE e).hold atom any = !(e.hold atom any) := by
  rw [Ex.hold_not atom any (e := notE e) rfl (by simp [notE, Fo.list_of])]
  simp [notE, Fo.list_of]
theorem hold_andE (atom : ByteArray → Bool) (any : Bool) (e f : Ex) : (twoE 4 e f).hold atom any = (e.hold atom any && f.hold atom any) := by
  rw [Ex.hold_and atom any (e := twoE 4 e f) rfl (by simp [twoE, Fo.list_of])]
  simp [twoE, Fo.list_of]
theorem hold_orE (atom : ByteArray → Bool) (any : Bool) (e f : Ex) : (twoE 5 e f).hold atom any = (e.hold atom any || f.hold atom any) := by
  rw [Ex.hold_or atom any (e := twoE 5 e f) rfl (by simp [twoE, Fo.list_of])]
  simp [twoE, Fo.list_of]
theorem hold_push (atom : ByteArray → Bool) (any : Bool) {kind : Int} (d : Nat) : ∀ (e : Ex) (neg : Bool), e.okB kind d = true → (e.push neg).hold atom any = (if neg then !(e.hold atom any) else e.hold atom any) := by
  induction d with
  | zero => intro e neg h; unfold Ex.okB at h; simp at h
  | succ d ih =>
    intro e neg h
    obtain ⟨_, ht, hk⟩ := Ex.okB_parts h
    have two : (o4 : e.op = 4 ∨ e.op = 5) → (hl : e.ks.list.length = 2) → (e.push neg).hold atom any = (if neg then !(e.hold atom any) else e.hold atom any) := fun o4 hl => by
      rw [Ex.push_two neg o4 hl]
      have k0 := ih e.ks.list[0] neg (hk 0 (by omega))
      have k1 := ih e.ks.list[1] neg (hk 1 (by omega))
      rcases o4 with o4 | o4 <;> cases neg <;> simp only [o4, Bool.false_eq_true, if_false, if_true] at k0 k1 ⊢
      · rw [show (⟨4, ⟨#[]⟩, Fo.of [e.ks.list[0].push false, e.ks.list[1].push false]⟩ : Ex) = twoE 4 _ _ from rfl, hold_andE, k0, k1, Ex.hold_and atom any o4 hl]
      · rw [show (⟨9 - 4, ⟨#[]⟩, Fo.of [e.ks.list[0].push true, e.ks.list[1].push true]⟩ : Ex) = twoE 5 _ _ from rfl, hold_orE, k0, k1, Ex.hold_and atom any o4 hl, Bool.not_and]
      · rw [show (⟨5, ⟨#[]⟩, Fo.of [e.ks.list[0].push false, e.ks.list[1].push false]⟩ : Ex) = twoE 5 _ _ from rfl, hold_orE, k0, k1, Ex.hold_or atom any o4 hl]
      · rw [show (⟨9 - 5, ⟨#[]⟩, Fo.of [e.ks.list[0].push true, e.ks.list[1].push true]⟩ : Ex) = twoE 4 _ _ from rfl, hold_andE, k0, k1, Ex.hold_or atom any o4 hl, Bool.not_or]
    have leaf : (o : e.op = 1 ∨ e.op = 2) → e.ks.list.length = 0 → (e.push neg).hold atom any = (if neg then !(e.hold atom any) else e.hold atom any) := fun o hl => by
      rw [Ex.push_leaf neg o]
      have hks : e.ks = .nil := Fo.list_nil (List.eq_nil_of_length_eq_zero hl)
      have he : (⟨e.op, e.a, .nil⟩ : Ex) = e := by cases e; simp at hks; subst hks; rfl
      unfold leafP
      cases neg
      · simp only [Bool.false_eq_true, if_false, he]
      · simp only [if_true, he]; exact hold_notE atom any e
    rcases topB_cases ht with ⟨o, hl, _⟩ | ⟨o, hl⟩ | ⟨o, hl⟩ | ⟨o, hl⟩ | ⟨o, hl⟩
    · exact leaf (.inl o) hl
    · exact leaf (.inr o) hl
    · rw [Ex.push_not neg o hl, ih _ (!neg) (hk 0 (by omega)), Ex.hold_not atom any o hl]
      cases neg <;> simp
    · exact two (.inl o) hl
    · exact two (.inr o) hl
theorem pushOk_parts {kind : Int} {e : Ex} (h : pushOk kind e = true) : exV kind e = true ∧ exV kind (pushR kind e) = true ∧ pushR kind e = e.push false := by
  unfold pushOk at h
  simp only [Bool.and_eq_true] at h
  have := pushOk_yes h.1 h.2
  exact ⟨h.1, by rw [this.2]; exact h.2, this.2⟩
theorem lholds_push {e : Ex} {s : ByteArray} (h : pushOk 1 e = true) : lholds (pushR 1 e) s = lholds e s := by
  obtain ⟨h1, h2, h3⟩ := pushOk_parts h
  unfold lholds
  rw [h1, h2, h3, hold_push _ _ 12 e false (exV_parts h1).2.1]; simp
theorem nholds_push {e : Ex} {n : Int} (h : pushOk 2 e = true) : nholds (pushR 2 e) n = nholds e n := by
  obtain ⟨h1, h2, h3⟩ := pushOk_parts h
  unfold nholds
  rw [h1, h2, h3, hold_push _ _ 12 e false (exV_parts h1).2.1]; simp
theorem lholds_not {e : Ex} {s : ByteArray} (h : exV 1 (notE e) = true) (hl : lbl s = true) : lholds (notE e) s = !(lholds e s) := by
  unfold lholds
  rw [h, exV_not h, hl, hold_notE]; simp
theorem nholds_not {e : Ex} {n : Int} (h : exV 2 (notE e) = true) (hl : nm n = true) : nholds (notE e) n = !(nholds e n) := by
  unfold nholds
  rw [h, exV_not h, hl, hold_notE]; simp
theorem lholds_two {e f : Ex} {s : ByteArray} (h : exV 1 (twoE 4 e f) = true) (hl : lbl s = true) : lholds (twoE 4 e f) s = (lholds e s && lholds f s) ∧ lholds (twoE 5 e f) s = (lholds e s || lholds f s) := by
  have h5 : exV 1 (twoE 5 e f) = true := by
    obtain ⟨h1, h2, h3⟩ := exV_parts h
    refine exV_mk h1 ?_ h3
    unfold Ex.okB twoE at h2 ⊢
    simp only [Bool.and_eq_true, decide_eq_true_eq] at h2 ⊢
    refine ⟨h2.1, ?_, h2.2.2⟩
    have := h2.2.1
    unfold topB at this ⊢
    simpa using this
  obtain ⟨h1, h2⟩ := exV_two h
  unfold lholds
  rw [h, h5, h1, h2, hl, hold_andE, hold_orE]; simp
theorem nholds_and {e f : Ex} {n : Int} (h : exV 2 (twoE 4 e f) = true) : nholds (twoE 4 e f) n = (nholds e n && nholds f n) := by
  obtain ⟨h1, h2⟩ := exV_two h
  unfold nholds
  rw [h, h1, h2, hold_andE]
  cases nm n <;> simp
theorem nholds_morgan {e f : Ex} {n : Int} (h : exV 2 (notE (twoE 4 e f)) = true) (h' : exV 2 (twoE 5 (notE e) (notE f)) = true) : nholds (notE (twoE 4 e f)) n = nholds (twoE 5 (notE e) (notE f)) n := by
  unfold nholds
  rw [h, h', hold_notE, hold_andE, hold_orE, hold_notE, hold_notE, Bool.not_and]
theorem lholdsF {e : Ex} {s : ByteArray} (h : exV 1 e = false ∨ lbl s = false) : lholds e s = false := by
  unfold lholds
  rcases h with h | h <;> simp [h]
theorem nholdsF {e : Ex} {n : Int} (h : exV 2 e = false ∨ nm n = false) : nholds e n = false := by
  unfold nholds
  rcases h with h | h <;> simp [h]
theorem labelValid_b {s : ByteArray} {c : Bool} {w : World} (hs : s.size ≤ maxLen) (h : lv s = c) : Calls Tryd.prog 37 #[.string s] w fun e w' => e = .returned (.bool c) ∧ Below w.heap.size w w' :=
  (labelValid_any s w hs).mono fun _ _ h2 => ⟨h ▸ h2.1, by rw [← h2.2]; exact Below.refl _ _⟩
/-- Expressions that a law makes, in memory. -/
theorem notE_at {e : Ex} {k : Value} {B : Nat} {w : World} {T : TypeId} (h : e.ks.In B w k) (hB : B ≤ w.heap.size) :
    (notE e).At (w.heap.size + 1) (w.alloc (.cells #[.int .i64 e.op, .string e.a, k] T)) (.agg #[.int .i64 3, .string ⟨#[]⟩, .slice (some ⟨w.heap.size, 0, none⟩) 1 1]) := by
  have hb : Below w.heap.size w (w.alloc (.cells #[.int .i64 e.op, .string e.a, k] T)) := (Below.refl _ _).alloc (Nat.le_refl _) _
  refine ⟨_, rfl, _, 1, by simp [notE, Fo.list_of], by simp [notE, Fo.list_of], by decide, .inr ⟨w.heap.size, 0, rfl, by omega, ?_⟩⟩
  exact Fo.row_cons.2 ⟨cellsAt 0, cellsAt 1, ⟨k, cellsAt 2, h.below (hb.mono hB) (by omega)⟩, trivial⟩
theorem twoE_at {o : Int} {e f : Ex} {k l : Value} {B : Nat} {w : World} {T : TypeId} (h : e.ks.In B w k) (g : f.ks.In B w l) (hB : B ≤ w.heap.size) :
    (twoE o e f).At (w.heap.size + 1) (w.alloc (.cells #[.int .i64 e.op, .string e.a, k, .int .i64 f.op, .string f.a, l] T)) (.agg #[.int .i64 o, .string ⟨#[]⟩, .slice (some ⟨w.heap.size, 0, none⟩) 2 2]) := by
  have hb : Below w.heap.size w (w.alloc (.cells #[.int .i64 e.op, .string e.a, k, .int .i64 f.op, .string f.a, l] T)) := (Below.refl _ _).alloc (Nat.le_refl _) _
  refine ⟨_, rfl, _, 2, by simp [twoE, Fo.list_of], by simp [twoE, Fo.list_of], by decide, .inr ⟨w.heap.size, 0, rfl, by omega, ?_⟩⟩
  refine Fo.row_cons.2 ⟨cellsAt 0, cellsAt 1, ⟨k, cellsAt 2, h.below (hb.mono hB) (by omega)⟩, ?_⟩
  exact Fo.row_cons.2 ⟨cellsAt 3, cellsAt 4, ⟨l, cellsAt 5, g.below (hb.mono hB) (by omega)⟩, trivial⟩
theorem condB_size {a : ByteArray} (h : condB a = true) : 0 < a.size := by
  unfold condB at h
  cases hl : a.data.toList with
  | nil => rw [hl] at h; simp [condOf] at h
  | cons x l => have e : a.data.toList.length = a.size := rfl; rw [hl] at e; simp at e; omega
theorem txt_pos {kind : Int} {e : Ex} (h : exV kind e = true) : 0 < e.txt.size := by
  obtain ⟨hk, h2, _⟩ := exV_parts h
  obtain ⟨_, ht, _⟩ := Ex.okB_parts h2
  rcases topB_cases ht with ⟨o, hl, ha⟩ | ⟨o, hl⟩ | ⟨o, hl⟩ | ⟨o, hl⟩ | ⟨o, hl⟩
  · rw [Ex.txt_atom o]
    unfold atomB at ha
    split at ha
    · by_cases hz : e.a.size = 0
      · rw [lv_empty hz] at ha; cases ha
      · omega
    · exact condB_size ha
  · rw [Ex.txt_any o]; decide
  · rw [Ex.txt_not o hl, ByteArray.size_append]; have : (s1 33).size = 1 := rfl; omega
  · rw [Ex.txt_and o hl, ByteArray.size_append, ByteArray.size_append]; have : (s1 38).size = 1 := rfl; omega
  · rw [Ex.txt_or o hl, ByteArray.size_append, ByteArray.size_append]; have : (s1 124).size = 1 := rfl; omega
theorem Ex.At.row {e : Ex} {B : Nat} {w : World} {o a k : Value} (h : e.At B w (.agg #[o, a, k])) : e.ks.In B w k := by
  obtain ⟨k', h1, h2⟩ := h
  cases h1
  exact h2
def Ex.Sml (e : Ex) : Prop := e.a.size ≤ 1048576 ∧ e.ks.Sm
theorem anyE_sml : anyE.Sml := ⟨by decide, trivial⟩
theorem notE_sml {e : Ex} (h : e.Sml) : (notE e).Sml := ⟨by show (0 : Nat) ≤ _; omega, h.1, h.2, trivial⟩
theorem twoE_sml {o : Int} {e f : Ex} (h : e.Sml) (g : f.Sml) : (twoE o e f).Sml := ⟨by show (0 : Nat) ≤ _; omega, h.1, h.2, g.1, g.2, trivial⟩
end Go.Proofs.YtbbemeaojmfndaaDoor
