/- PushNots, on both sides. -/
import Derived.Test.YtbbemeaojmfndaaDoorPushI
import Derived.Test.YtbbemeaojmfndaaDoorPushS
import Derived.Test.YtbbemeaojmfndaaDoorM4q0p1
namespace Go.Proofs.YtbbemeaojmfndaaDoor
open Go.RowKit

def pushOk (kind : Int) (e : Ex) : Bool := exV kind e && exV kind (e.push false)
def noEx : Ex := ⟨0, ⟨#[]⟩, .nil⟩
def pushR (kind : Int) (e : Ex) : Ex := if pushOk kind e then e.push false else noEx
theorem pushOk_bad {kind : Int} {e : Ex} (h : exV kind e = false) : pushOk kind e = false ∧ pushR kind e = noEx := by
  have h1 : pushOk kind e = false := by unfold pushOk; rw [h]; rfl
  exact ⟨h1, by unfold pushR; rw [h1]; rfl⟩
theorem pushOk_no {kind : Int} {e : Ex} (h : exV kind (e.push false) = false) : pushOk kind e = false ∧ pushR kind e = noEx := by
  have h1 : pushOk kind e = false := by unfold pushOk; rw [h]; simp
  exact ⟨h1, by unfold pushR; rw [h1]; rfl⟩
theorem pushOk_yes {kind : Int} {e : Ex} (h : exV kind e = true) (h2 : exV kind (e.push false) = true) : pushOk kind e = true ∧ pushR kind e = e.push false := by
  have h1 : pushOk kind e = true := by unfold pushOk; rw [h, h2]; rfl
  exact ⟨h1, by unfold pushR; rw [h1]; rfl⟩
theorem noEx_has (w : World) : noEx.Has (.agg #[.int .i64 0, .string ⟨#[]⟩, .slice none 0 0]) [] w := ⟨_, rfl, Fo.Own.empty w⟩
theorem Ex.push_sm {kind : Int} (d : Nat) : ∀ (e : Ex) (neg : Bool), e.okB kind d = true → (e.push neg).a.size ≤ 6 ∧ (e.push neg).ks.Sm := by
  induction d with
  | zero => intro e neg h; rw [Ex.okB_zero] at h; cases h
  | succ d ih =>
    intro e neg h
    obtain ⟨_, htop, hk⟩ := Ex.okB_parts h
    simp only [Nat.add_sub_cancel] at hk
    have hleaf : ∀ (a : ByteArray), a.size ≤ 6 → (leafP e.op a neg).a.size ≤ 6 ∧ (leafP e.op a neg).ks.Sm := by
      intro a ha
      unfold leafP
      cases neg
      · exact ⟨ha, trivial⟩
      · exact ⟨by simp [ByteArray.size], by show a.size ≤ 1048576; omega, trivial, trivial⟩
    rcases topB_cases htop with ⟨oo, hl, hat⟩ | ⟨oo, hl⟩ | ⟨oo, hl⟩ | ⟨oo, hl⟩ | ⟨oo, hl⟩
    · rw [Ex.push_leaf neg (.inl oo)]; exact hleaf _ (atom_size hat)
    · rw [Ex.push_leaf neg (.inr oo)]
      refine hleaf _ ?_
      unfold topB at htop
      rw [if_neg (by omega), if_pos oo] at htop
      simp only [Bool.and_eq_true, decide_eq_true_eq] at htop; omega
    · rw [Ex.push_not neg oo hl]; exact ih _ _ (hk 0 (by omega))
    · rw [Ex.push_two neg (.inl oo) hl]
      have h1 := ih _ neg (hk 0 (by omega))
      have h2 := ih _ neg (hk 1 (by omega))
      exact ⟨by simp [ByteArray.size], ⟨by omega, h1.2, by omega, h2.2, trivial⟩⟩
    · rw [Ex.push_two neg (.inr oo) hl]
      have h1 := ih _ neg (hk 0 (by omega))
      have h2 := ih _ neg (hk 1 (by omega))
      exact ⟨by simp [ByteArray.size], ⟨by omega, h1.2, by omega, h2.2, trivial⟩⟩

theorem pushR_size (kind : Int) (e : Ex) : (pushR kind e).ks.size ≤ 2097152 := by
  unfold pushR
  split
  · rename_i h
    unfold pushOk at h
    simp only [Bool.and_eq_true] at h
    have h2 := h.2
    unfold exV at h2
    simp only [Bool.and_eq_true, decide_eq_true_eq] at h2
    have := h2.2.2
    unfold Ex.size at this; omega
  · exact Nat.zero_le _
end Go.Proofs.YtbbemeaojmfndaaDoor
