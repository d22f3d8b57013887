/- strings.Builder's WriteString: what it keeps beside the builder's own blocks. -/
import Derived.Test.YthpclghhlodnhaaDoorBld
namespace Go.Proofs.YthpclghhlodnhaaDoor
open Go.RowKit

/-- Blocks of another kind than bytes stay, but block b. -/
def KeepT (b : Nat) (w w' : World) : Prop := ∀ k0 cs T fr, k0 ≠ b → T ≠ 5 → w.heap[k0]? = some (.cells cs T fr) → w'.heap[k0]? = w.heap[k0]?
theorem copyCheck_keep (B b : Nat) (bs : List Value) (w : World) (h : Bld B b bs w) :
    Calls Tryd.prog 73 #[.pointer (some ⟨b, 0, none⟩)] w fun e w' => e = .returned (.tuple #[]) ∧ Lib.BuilderAt 90 5 B b (.pointer (some ⟨b, 0, none⟩)) bs w' ∧ Below B w w' ∧ KeepT b w w' := by
  rcases h with h | h
  · refine (copyCheck_fresh b w h.cell0 h.shape h.frozen0).mono ?_
    rintro e w' ⟨rfl, rfl⟩
    exact ⟨rfl, h.used _, (Below.refl B w).setCell (p := ⟨b, 0, none⟩) h.1 _, fun k0 cs T fr h0 _ _ => Below.heap_setCell _ _ _ _ h0⟩
  · refine (copyCheck_used b w h.cell0).mono ?_
    rintro e w' ⟨rfl, rfl⟩
    exact ⟨rfl, h, Below.refl B _, fun _ _ _ _ _ _ _ => rfl⟩

set_option maxHeartbeats 2000000 in
set_option maxRecDepth 100000 in
theorem writeString_keep (B b : Nat) (bs : List Value) (s : ByteArray) (w : World) (h : Bld B b bs w) (hlen : bs.length + s.size ≤ 100000000) (hBw : B ≤ w.heap.size) :
    Calls Tryd.prog 40 #[.pointer (some ⟨b, 0, none⟩), .string s] w fun e w' => (∃ k, e = .returned (.tuple #[.int .i64 k, .nilIface])) ∧ Bld B b (bs ++ Lib.strCells s) w' ∧ Below B w w' ∧ KeepT b w w' := by
  obtain ⟨i0, hi, hz0, hz1, hz2⟩ := info_parts infoU8
  go_enter Tryd.func40, Tryd.ntmps40
  go_wp2_with fail
  refine (copyCheck_keep B b bs _ h).mono ?_
  rintro e w1 ⟨rfl, h1, hb1, hk1⟩
  obtain ⟨hB, v, hbk, hown, hne⟩ := h1
  have c1 : w1.cell? ⟨b, 1, none⟩ = some v := by rw [Lib.cell_of_heap hbk]; rfl
  have hs1 := hb1.size
  go_wp2_with (at_builtin; refine Lib.wpList_append_own_string _ rfl _ _ 88 9 rfl B 5 i0 Tryd.underlying88 Tryd.underlying9 hi hz0 hz1 hz2 _ _ _ rfl hown s rfl ?c3 ?c4 ?c5 ?_)
  case c3 => unfold maxLen; omega
  case c4 => omega
  case c5 => omega
  intro v' w2 hown' hgrow _
  have hlt : b < w1.heap.size := by
    rcases Nat.lt_or_ge b w1.heap.size with h' | h'
    · exact h'
    · simp [Array.getElem?_eq_none h'] at hbk
  have hb2 : w2.heap[b]? = some (.cells #[.pointer (some ⟨b, 0, none⟩), v] 90 (0, 0)) := by
    rw [hgrow.block b hlt (fun e => hne e.symm)]
    exact hbk
  have d0 : w2.cell? ⟨b, 0, none⟩ = some (.pointer (some ⟨b, 0, none⟩)) := by rw [Lib.cell_of_heap hb2]; rfl
  have d1 : w2.cell? ⟨b, 1, none⟩ = some v := by rw [Lib.cell_of_heap hb2]; rfl
  have f1 : w2.frozen? ⟨b, 1, none⟩ = false := Lib.frozen_of_heap hb2 1
  obtain ⟨ao, n', cap, rfl⟩ : ∃ ao n' cap, v' = .slice ao n' cap := by
    rcases hown'.2 with ⟨hv, _⟩ | ⟨g, cap, cur, hv, _⟩
    · exact ⟨_, _, _, hv⟩
    · exact ⟨_, _, _, hv⟩
  have hkB : ∀ k, v.ownBlock = some k → B ≤ k := by
    intro k hk
    rcases hown.2 with ⟨hv, _⟩ | ⟨g, cap, cur, hv, hgB, _⟩
    · rw [hv] at hk; simp [Value.ownBlock] at hk
    · rw [hv] at hk; simp [Value.ownBlock] at hk; omega
  have HK := Lib.hid hkB
  have HKT := Lib.hid (show ∀ k0 cs T fr, k0 ≠ b → T ≠ 5 → w.heap[k0]? = some (.cells cs T fr) → w2.heap[k0]? = w.heap[k0]? from fun k0 cs T fr h0 hT hh => by
    have e1 := hk1 k0 cs T fr h0 hT hh
    have e2 : w1.heap[k0]? = some (.cells cs T fr) := e1.trans hh
    have hl0 : k0 < w1.heap.size := (Array.getElem?_eq_some_iff.1 e2).1
    exact (hgrow.block k0 hl0 (fun e => Lib.ownBlock_ne hown e2 hT e.symm)).trans e1)
  have HO := Lib.hid hown'
  have HG := Lib.hid hgrow
  clear hown' hgrow hown hkB
  go_wp2_with fail
  refine bodyPost_ret (v := .tuple #[.int .i64 s.size, .nilIface]) (by simp [results, Tryd.results40, go_sem]) rfl ⟨⟨_, rfl⟩, ?_, ?_, ?_⟩
  · exact .inr (Lib.BuilderAt.put (T := 90) (e := 5) hB hb2 (bs' := bs ++ Lib.strCells s) (by simpa [Lib.strCells_length] using HO.out) (by decide))
  · exact (hb1.grown HG.out (by omega) (fun k hk => HK.out k hk)).setCell (p := ⟨b, 1, none⟩) hB _
  · intro k0 cs T fr h0 hT hh
    rw [Below.heap_setCell _ _ _ _ h0]
    exact HKT.out k0 cs T fr h0 hT hh
end Go.Proofs.YthpclghhlodnhaaDoor
