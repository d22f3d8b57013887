/- The text of an expression with negations at atoms: a negation stands in front of an atom. -/
import Derived.Test.YtckkebjpkcfmnaaDoorXLaw
namespace Go.Proofs.YtckkebjpkcfmnaaDoor
open Go.RowKit

def okP (l : List UInt8) : Prop := ∀ (i : Nat) (h : i + 1 < l.length), l[i] = 33 → l[i + 1] ≠ 33 ∧ l[i + 1] ≠ 40
def lastP (l : List UInt8) : Prop := ∀ h : 0 < l.length, l[l.length - 1] ≠ 33
theorem okP_append {a b : List UInt8} (ha : okP a) (hb : okP b) (hl : lastP a) : okP (a ++ b) := by
  intro i h h33
  simp only [List.length_append] at h
  by_cases h1 : i + 1 < a.length
  · rw [List.getElem_append_left (by omega)] at h33
    rw [List.getElem_append_left h1]
    exact ha i h1 h33
  · by_cases h2 : i < a.length
    · rw [List.getElem_append_left h2] at h33
      have : i = a.length - 1 := by omega
      subst this
      exact absurd h33 (hl (by omega))
    · rw [List.getElem_append_right (by omega)] at h33
      rw [List.getElem_append_right (by omega)]
      have h3 := hb (i - a.length) (by omega) h33
      have e : i + 1 - a.length = i - a.length + 1 := by omega
      simp only [e]
      exact h3
theorem lastP_append {a b : List UInt8} (hb : lastP b) (h : 0 < b.length) : lastP (a ++ b) := by
  intro h2
  simp only [List.length_append]
  rw [List.getElem_append_right (by omega)]
  have e : a.length + b.length - 1 - a.length = b.length - 1 := by omega
  simp only [e]
  exact hb h
theorem okP_no {l : List UInt8} (h : ∀ c ∈ l, c ≠ 33) : okP l := fun _ _ h33 => absurd h33 (h _ (List.getElem_mem _))
theorem lastP_no {l : List UInt8} (h : ∀ c ∈ l, c ≠ 33) : lastP l := fun _ => h _ (List.getElem_mem _)
def QP (t : ByteArray) : Prop := okP t.data.toList ∧ lastP t.data.toList ∧ 0 < t.data.toList.length
theorem tl_app' (a b : ByteArray) : (a ++ b).data.toList = a.data.toList ++ b.data.toList := by rw [ByteArray.data_append, Array.toList_append]
theorem QP.append {a b : ByteArray} (ha : QP a) (hb : QP b) : QP (a ++ b) := by
  unfold QP
  rw [tl_app']
  exact ⟨okP_append ha.1 hb.1 ha.2.1, lastP_append hb.2.1 hb.2.2, by rw [List.length_append]; have := hb.2.2; omega⟩
theorem QP.no {t : ByteArray} (h : ∀ c ∈ t.data.toList, c ≠ 33) (hl : 0 < t.data.toList.length) : QP t := ⟨okP_no h, lastP_no h, hl⟩
theorem s1_list (c : UInt8) : (s1 c).data.toList = [c] := rfl
theorem QP.one {c : UInt8} (h : c ≠ 33) : QP (s1 c) := by
  refine QP.no (fun x hx => ?_) (by rw [s1_list]; simp)
  rw [s1_list, List.mem_singleton] at hx
  rw [hx]; exact h
theorem QP.part {o : Int} {t : ByteArray} {l : Int} (h : QP t) : QP (partT o t l) := by
  unfold partT
  split
  · exact ((QP.one (by decide)).append h).append (QP.one (by decide))
  · exact h
/-- An atom's bytes. -/
def atomC (t : ByteArray) : Prop := (∀ c ∈ t.data.toList, c ≠ 33 ∧ c ≠ 40) ∧ 0 < t.data.toList.length
theorem atomC.q {t : ByteArray} (h : atomC t) : QP t := QP.no (fun c hc => (h.1 c hc).1) h.2
theorem atomC.neg {t : ByteArray} (h : atomC t) : QP (s1 33 ++ t) := by
  unfold QP
  rw [tl_app']
  rw [s1_list]
  refine ⟨fun i hi h33 => ?_, lastP_append h.q.2.1 h.2, by simp⟩
  have hm : ([33] ++ t.data.toList)[i + 1] ∈ t.data.toList := by
    rw [List.getElem_append_right (by simp)]; exact List.getElem_mem _
  exact h.1 _ hm
theorem isL_c {c : UInt8} (h : isL c = true) : c ≠ 33 ∧ c ≠ 40 := by
  unfold isL at h
  constructor <;> rintro rfl <;> revert h <;> decide
theorem isS_c {c : UInt8} (h : isS c = true) : c ≠ 33 ∧ c ≠ 40 := by
  unfold isS at h
  constructor <;> rintro rfl <;> revert h <;> decide
theorem isD_c {c : UInt8} (h : isD c = true) : c ≠ 33 ∧ c ≠ 40 := by
  unfold isD at h
  constructor <;> rintro rfl <;> revert h <;> decide
theorem atomC_lv {a : ByteArray} (h : lv a = true) : atomC a := by
  unfold lv lvL at h
  simp only [Bool.and_eq_true, decide_eq_true_eq, List.all_eq_true] at h
  exact ⟨fun c hc => isL_c (h.2 c hc), by omega⟩
theorem atomC_cond {a : ByteArray} (h : condB a = true) : atomC a := by
  unfold condB at h
  unfold atomC
  match a.data.toList, h with
  | [], h => simp [condOf] at h
  | [_], h => simp [condOf] at h
  | [s, d], h =>
    by_cases hc : (isS s && isD d) = true
    · simp only [Bool.and_eq_true] at hc
      refine ⟨fun c hm => ?_, by simp⟩
      simp at hm
      rcases hm with rfl | rfl
      · exact isS_c hc.1
      · exact isD_c hc.2
    · simp [condOf, hc] at h
  | [s, d, e], h =>
    by_cases hc : (isS s && (isD d && (decide (d.toNat ≠ 48) && isD e))) = true
    · simp only [Bool.and_eq_true] at hc
      refine ⟨fun c hm => ?_, by simp⟩
      simp at hm
      rcases hm with rfl | rfl | rfl
      · exact isS_c hc.1
      · exact isD_c hc.2.1
      · exact isD_c hc.2.2.2
    · have h2 : condOf [s, d, e] = none := by show (if _ then _ else _) = _; exact if_neg hc
      rw [h2] at h
      cases h
  | _ :: _ :: _ :: _ :: _, h => simp [condOf] at h
theorem leafT (o : Int) (a : ByteArray) (ho : o = 1 ∨ o = 2) (h : atomC (⟨o, a, .nil⟩ : Ex).txt) (neg : Bool) : QP (leafP o a neg).txt := by
  unfold leafP
  cases neg
  · exact h.q
  · simp only [if_true]
    rw [Ex.txt_not (e := ⟨3, ⟨#[]⟩, Fo.of [⟨o, a, .nil⟩]⟩) rfl (by simp [Fo.list_of])]
    have e : (⟨3, ⟨#[]⟩, Fo.of [⟨o, a, .nil⟩]⟩ : Ex).ks.list[0]'(by simp [Fo.list_of]) = ⟨o, a, .nil⟩ := by simp [Fo.list_of]
    rw [e]
    unfold Ex.part partT
    rw [if_neg (by simp only; omega)]
    exact h.neg
theorem push_QP {kind : Int} (d : Nat) : ∀ (e : Ex) (neg : Bool), e.okB kind d = true → QP (e.push neg).txt := by
  induction d with
  | zero => intro e neg h; unfold Ex.okB at h; simp at h
  | succ d ih =>
    intro e neg h
    obtain ⟨_, ht, hk⟩ := Ex.okB_parts h
    have two : (o4 : e.op = 4 ∨ e.op = 5) → (hl : e.ks.list.length = 2) → QP (e.push neg).txt := fun o4 hl => by
      rw [Ex.push_two neg o4 hl]
      have k0 := ih e.ks.list[0] neg (hk 0 (by omega))
      have k1 := ih e.ks.list[1] neg (hk 1 (by omega))
      have all : ∀ o : Int, (o = 4 ∨ o = 5) → QP (⟨o, ⟨#[]⟩, Fo.of [e.ks.list[0].push neg, e.ks.list[1].push neg]⟩ : Ex).txt := fun o ho => by
        have l2 : (⟨o, ⟨#[]⟩, Fo.of [e.ks.list[0].push neg, e.ks.list[1].push neg]⟩ : Ex).ks.list.length = 2 := by simp [Fo.list_of]
        have e0 : (⟨o, ⟨#[]⟩, Fo.of [e.ks.list[0].push neg, e.ks.list[1].push neg]⟩ : Ex).ks.list[0] = e.ks.list[0].push neg := by simp [Fo.list_of]
        have e1 : (⟨o, ⟨#[]⟩, Fo.of [e.ks.list[0].push neg, e.ks.list[1].push neg]⟩ : Ex).ks.list[1] = e.ks.list[1].push neg := by simp [Fo.list_of]
        rcases ho with rfl | rfl
        · rw [Ex.txt_and rfl l2, e0, e1]
          exact ((QP.part k0).append (QP.one (by decide))).append (QP.part k1)
        · rw [Ex.txt_or rfl l2, e0, e1]
          exact ((QP.part k0).append (QP.one (by decide))).append (QP.part k1)
      exact all _ (by cases neg <;> simp <;> omega)
    have hks : e.ks.list.length = 0 → (⟨e.op, e.a, .nil⟩ : Ex) = e := fun hl => by
      have hn : e.ks = .nil := Fo.list_nil (List.eq_nil_of_length_eq_zero hl)
      cases e; simp at hn; subst hn; rfl
    rcases topB_cases ht with ⟨o, hl, ha⟩ | ⟨o, hl⟩ | ⟨o, hl⟩ | ⟨o, hl⟩ | ⟨o, hl⟩
    · rw [Ex.push_leaf neg (.inl o)]
      refine leafT _ _ (.inl o) ?_ neg
      rw [Ex.txt_atom (e := ⟨e.op, e.a, .nil⟩) o]
      unfold atomB at ha
      split at ha
      · exact atomC_lv ha
      · exact atomC_cond ha
    · rw [Ex.push_leaf neg (.inr o)]
      refine leafT _ _ (.inr o) ?_ neg
      rw [Ex.txt_any (e := ⟨e.op, e.a, .nil⟩) o]
      refine ⟨fun c hc => ?_, by rw [s1_list]; simp⟩
      rw [s1_list, List.mem_singleton] at hc
      rw [hc]; decide
    · rw [Ex.push_not neg o hl]
      exact ih _ (!neg) (hk 0 (by omega))
    · exact two (.inl o) hl
    · exact two (.inr o) hl
/-- As the law reads it. -/
theorem QP.at {t : ByteArray} (h : QP t) (i : Nat) (hi : i + 1 < t.size) (h33 : (t[i]'(by omega)).toNat = 33) : (t[i + 1]'hi).toNat ≠ 33 ∧ (t[i + 1]'hi).toNat ≠ 40 := by
  have e : t.data.toList.length = t.size := rfl
  have h1 := h.1 i (by omega) (UInt8.toNat.inj (show (t[i]'(by omega)).toNat = _ from h33))
  exact ⟨fun h2 => h1.1 (UInt8.toNat.inj h2), fun h2 => h1.2 (UInt8.toNat.inj h2)⟩
theorem push_text {kind : Int} {e : Ex} (h : pushOk kind e = true) : fmtE kind (pushR kind e) = (pushR kind e).txt ∧ QP (pushR kind e).txt := by
  obtain ⟨h1, h2, h3⟩ := pushOk_parts h
  refine ⟨by unfold fmtE; rw [h2]; rfl, ?_⟩
  rw [h3]
  exact push_QP 12 e false (exV_parts h1).2.1
theorem pushR_small (kind : Int) (e : Ex) : (pushR kind e).ks.size ≤ 1048576 := by
  cases h : pushOk kind e with
  | false => unfold pushR; rw [h]; exact Nat.zero_le _
  | true =>
    obtain ⟨_, h2, _⟩ := pushOk_parts h
    have := (exV_parts h2).2.2
    unfold Ex.size at this
    omega
theorem fmtE_small (kind : Int) (e : Ex) : (fmtE kind e).size ≤ 1000000 := by
  unfold fmtE
  cases h : exV kind e with
  | false => exact Nat.zero_le _
  | true =>
    have := Ex.txt_small (exV_parts h).2.1 (Nat.le_refl _)
    simp only [if_true]
    omega
end Go.Proofs.YtckkebjpkcfmnaaDoor
