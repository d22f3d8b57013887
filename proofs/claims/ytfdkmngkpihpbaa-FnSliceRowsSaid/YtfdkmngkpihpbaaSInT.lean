/- spec.l2In: whether a text is in a slice. -/
import Derived.Test.YtfdkmngkpihpbaaTb
import Derived.IntWalk
namespace Go.Proofs.Ytfdkmngkpihpbaa
open Go.RowKit

def inS (xs : List ByteArray) (s : ByteArray) : Bool := xs.any fun a => a.toList == s.toList
theorem inS_hit {xs : List ByteArray} {s : ByteArray} {m : Nat} (hm : m < xs.length) (h : (xs[m].toList == s.toList) = true) : inS xs s = true :=
  List.any_eq_true.2 ⟨_, List.getElem_mem hm, h⟩
theorem inS_miss {xs : List ByteArray} {s : ByteArray} (h : ∀ (j : Nat) (hj : j < xs.length), (xs[j].toList == s.toList) = false) : inS xs s = false := by
  unfold inS
  rw [List.any_eq_false]
  intro a ha
  obtain ⟨j, hj, rfl⟩ := List.getElem_of_mem ha
  rw [h j hj]
  exact Bool.false_ne_true
set_option maxRecDepth 100000 in
theorem l2In_any (xs : List ByteArray) (s : ByteArray) (p : Option Addr) (c : Nat) (w : World) (hm : xs.length ≤ 4611686018427387904)
    (hp : xs.length = 0 ∨ ∃ b off, p = some ⟨b, off, none⟩ ∧ ∀ (i : Nat) (h : i < xs.length), w.cell? ⟨b, off + i, none⟩ = some (.string xs[i])) :
    Calls Try.prog 100 #[.slice p xs.length c, .string s] w fun en w' => en = .returned (.bool (inS xs s)) ∧ w = w' := by
  have HP := Lib.hid hp
  clear hp
  obtain ⟨n, hn⟩ : ∃ n, n = xs.length := ⟨_, rfl⟩
  go_enter Try.func100, Try.ntmps100
  go_wp2_with fail
  go_loopw [5] (fun i wr => ∃ (m : Nat), m ≤ xs.length ∧ i = .int .i64 (m : Int) ∧ RowKit.Hid (∀ (j : Nat) (hj : j < xs.length), j < m → (xs[j].toList == s.toList) = false) ∧ wr = w) (fun i _ => xs.length - (intOf i).toNat)
  case atStart => exact ⟨0, Nat.zero_le _, rfl, Lib.hid (fun j _ h => by omega), rfl⟩
  case round =>
    obtain ⟨m, hm', rfl, HE, rfl⟩ := hrel
    by_cases hlt : m < xs.length
    · obtain ⟨b, off, rfl, hc⟩ := HP.out.resolve_left (by omega)
      have c0 := hc m hlt
      have hst : (xs[m].toList == s.toList) = false → ∀ (j : Nat) (hj : j < xs.length), j < m + 1 → (xs[j].toList == s.toList) = false := by
        intro h j hj hj2
        by_cases hjm : j = m
        · subst hjm; exact h
        · exact HE.out j hj (by omega)
      have hhit := inS_hit (s := s) hlt
      have HST := Lib.hid hst
      have HHIT := Lib.hid hhit
      obtain ⟨a, ea⟩ : ∃ a, a = xs[m] := ⟨_, rfl⟩
      rw [← ea] at c0
      have EA := Lib.hid ea
      clear hc hst hhit ea hn
      cases he : (a.toList == s.toList) with
      | true =>
        have HT := Lib.hid (HHIT.out (by rw [← EA.out]; exact he))
        go_wp2_with fail
        go_ret
        exact ⟨by rw [HT.out]; rfl, rfl⟩
      | false =>
        have HS2 := Lib.hid (HST.out (by rw [← EA.out]; exact he))
        go_wp2_with fail
        go_roundw
        case rel => exact ⟨m + 1, by omega, by go_num, HS2, by first | rfl | trivial⟩
        case measure => simp [intOf]; omega
    · obtain rfl : m = xs.length := by omega
      have HT := Lib.hid (inS_miss fun j hj => HE.out j hj hj)
      clear hn
      go_wp2_with fail
      go_ret
      exact ⟨by rw [HT.out]; rfl, rfl⟩
end Go.Proofs.Ytfdkmngkpihpbaa
