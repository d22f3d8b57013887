/- The laws' copies of expressions. -/
import Derived.Test.YtbpihiholbidlaaExHelp
import Derived.Test.YtbpihiholbidlaaM0q0p1
namespace Go.Proofs.Ytbpihiholbidlaa
open Go.RowKit

theorem Fo.app_assoc (f g h : Fo) : (f.app g).app h = f.app (g.app h) := by
  induction f with
  | nil => rfl
  | cons o a k r _ ih => simp only [Fo.app, ih]
theorem Fo.list_nil {f : Fo} (h : f.list = []) : f = .nil := by
  cases f with
  | nil => rfl
  | cons o a k r => simp [Fo.list] at h
theorem Fo.app_nil (f : Fo) : f.app .nil = f := by
  induction f with
  | nil => rfl
  | cons o a k r _ ih => simp only [Fo.app, ih]
/-- The first k of a row are copied into the block B. -/
def ToInv (f : Fo) (T : TypeId) (B : Nat) (k : Nat) (wr : World) : Prop :=
  ∃ (L : List Value) (g h : Fo) (F : List Nat), f = g.app h ∧ g.list.length = k ∧ L.length = f.list.length * 3 ∧ g.ORow wr (fun i => L[i]?) F ∧ (∀ x ∈ F, B < x) ∧ Blk wr B T L
theorem ToInv.lt {f : Fo} {T : TypeId} {B k : Nat} {wr : World} (h : ToInv f T B k wr) : B < wr.heap.size := by
  obtain ⟨L, g, h, F, _, _, _, _, _, h6⟩ := h; exact h6.lt
theorem ToInv.cells {f : Fo} {T : TypeId} {B k : Nat} {wr : World} (h : ToInv f T B k wr) (i : Nat) (hi : i < f.list.length * 3) : (∃ x, wr.cell? ⟨B, i, none⟩ = some x) ∧ wr.frozen? ⟨B, i, none⟩ = false := by
  obtain ⟨L, g, h, F, _, _, h3, _, _, h6⟩ := h
  exact ⟨⟨_, (h6.cell i).trans (List.getElem?_eq_getElem (by omega))⟩, h6.frozen i⟩
theorem ToInv.step {f : Fo} {T : TypeId} {B k : Nat} {wr w1 : World} (h : ToInv f T B k wr) (hk : k < f.list.length) (hb : Below wr.heap.size wr w1) {kv : Value} {F' : List Nat} (ho : f.list[k].ks.Own w1 kv F') (hF : ∀ x ∈ F', wr.heap.size ≤ x) :
    ToInv f T B (k + 1) (((w1.setCell ⟨B, k * 3, none⟩ (.int .i64 f.list[k].op)).setCell ⟨B, k * 3 + 1, none⟩ (.string f.list[k].a)).setCell ⟨B, k * 3 + 2, none⟩ kv) := by
  have hlt := h.lt
  obtain ⟨L, g, h, F, h1, h2, h3, h4, h5, h6⟩ := h
  have hlist : f.list = g.list ++ h.list := by rw [h1, Fo.list_app]
  cases h with
  | nil => rw [hlist] at hk; simp [Fo.list] at hk; omega
  | cons o a ks h' =>
    have he : f.list[k] = ⟨o, a, ks⟩ := by
      simp only [hlist]
      rw [List.getElem_append_right (by omega)]
      simp [h2, Fo.list]
    rw [he] at ho ⊢
    have hch : Chg [B] w1 (((w1.setCell ⟨B, k * 3, none⟩ (.int .i64 o)).setCell ⟨B, k * 3 + 1, none⟩ (.string a)).setCell ⟨B, k * 3 + 2, none⟩ kv) :=
      (((Chg.refl _ w1).setCell (by simp) _).setCell (by simp) _).setCell (by simp) _
    have hch0 : Chg [B] wr (((w1.setCell ⟨B, k * 3, none⟩ (.int .i64 o)).setCell ⟨B, k * 3 + 1, none⟩ (.string a)).setCell ⟨B, k * 3 + 2, none⟩ kv) := (Chg.of_below hb _).trans hch
    have hlen : k * 3 + 2 < L.length := by rw [h3, hlist]; simp [Fo.list]; omega
    refine ⟨((L.set (k * 3) (.int .i64 o)).set (k * 3 + 1) (.string a)).set (k * 3 + 2) kv, g.app (.cons o a ks .nil), h', F ++ F', ?_, ?_, ?_, ?_, ?_, ?_⟩
    · rw [h1, Fo.app_assoc]; rfl
    · rw [Fo.list_app]; simp [Fo.list, h2]
    · simpa using h3
    · refine Fo.orow_app.2 ⟨F, F', rfl, fun x hx hx2 => ?_, h4.chg hch0 (fun x hx => by have := h5 x hx; simp; omega) fun i hi => ?_, ?_⟩
      · have := h4.lt x hx; have := hF x hx2; omega
      · rw [h2] at hi
        show (((L.set _ _).set _ _).set _ _)[i]? = L[i]?
        rw [List.getElem?_set_ne (by omega), List.getElem?_set_ne (by omega), List.getElem?_set_ne (by omega)]
      · rw [h2]
        refine Fo.orow_cons.2 ⟨?_, ?_, kv, F', [], by simp, by simp, ?_, ho.chg hch (fun x hx => by have := hF x hx; simp; omega), rfl⟩
        · show (((L.set _ _).set _ _).set _ _)[0 + k * 3]? = _
          rw [Nat.zero_add, List.getElem?_set_ne (by omega), List.getElem?_set_ne (by omega), List.getElem?_set_self (by omega)]
        · show (((L.set _ _).set _ _).set _ _)[1 + k * 3]? = _
          rw [show 1 + k * 3 = k * 3 + 1 by omega, List.getElem?_set_ne (by omega), List.getElem?_set_self (by simp; omega)]
        · show (((L.set _ _).set _ _).set _ _)[2 + k * 3]? = _
          rw [show 2 + k * 3 = k * 3 + 2 by omega, List.getElem?_set_self (by simp; omega)]
    · intro x hx
      rcases List.mem_append.1 hx with hx | hx
      · exact h5 x hx
      · have := hF x hx; omega
    · exact (((h6.below hb hlt).set _ _).set _ _).set _ _
theorem ToInv.done {f : Fo} {T : TypeId} {B : Nat} {wr : World} (h : ToInv f T B f.list.length wr) (hm : f.list.length ≤ maxLen) : ∃ F, f.Own wr (.slice (some ⟨B, 0, none⟩) f.list.length f.list.length) F ∧ ∀ x ∈ F, B ≤ x := by
  obtain ⟨L, g, h, F, h1, h2, h3, h4, h5, h6⟩ := h
  have hlist : f.list = g.list ++ h.list := by rw [h1, Fo.list_app]
  have hh : h = .nil := Fo.list_nil (List.eq_nil_of_length_eq_zero (by have := congrArg List.length hlist; simp at this; omega))
  subst hh
  rw [Fo.app_nil] at h1
  subst h1
  by_cases he : f.list = []
  · exact ⟨[], ⟨_, _, rfl, Nat.le_refl _, hm, .inl ⟨he, rfl⟩⟩, by simp⟩
  · refine ⟨B :: F, ⟨_, _, rfl, Nat.le_refl _, hm, .inr ⟨B, F, rfl, rfl, fun hx => by have := h5 B hx; omega, h6.lt, fun o => h6.frozen o, h4.chg (Chg.refl [] wr) (by simp) fun i _ => h6.cell i⟩⟩, ?_⟩
    intro x hx
    rcases List.mem_cons.1 hx with rfl | hx
    · exact Nat.le_refl _
    · exact Nat.le_of_lt (h5 x hx)

def ToPost (f : Fo) (w : World) (e : Ending) (w' : World) : Prop := ∃ v' F, e = .returned v' ∧ f.Own w' v' F ∧ (∀ x ∈ F, w.heap.size ≤ x) ∧ Below w.heap.size w w'
def ToExPost (e : Ex) (w : World) (en : Ending) (w' : World) : Prop := ∃ k' F, en = .returned (.agg #[.int .i64 e.op, .string e.a, k']) ∧ e.ks.Own w' k' F ∧ (∀ x ∈ F, w.heap.size ≤ x) ∧ Below w.heap.size w w'

end Go.Proofs.Ytbpihiholbidlaa
