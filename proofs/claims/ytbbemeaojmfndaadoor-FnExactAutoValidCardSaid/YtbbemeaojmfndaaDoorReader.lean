/- impl.reader: what it holds, and its small methods. -/
import Derived.Test.YtbbemeaojmfndaaDoorExPure
import Derived.Test.YtbbemeaojmfndaaDoorBox
import Derived.Deep.QuietTactic
import Derived.BigQuiet
import Derived.StillTailTactics
import Derived.WalkSmall
import Derived.Test.YtbbemeaojmfndaaDoorShelf
namespace Go.Proofs.YtbbemeaojmfndaaDoor
open Go.RowKit

/-- A reader in block b: its text, its place, and whether it is bad. -/
def Rdr (b : Nat) (s : ByteArray) (k : Nat) (bad : Bool) (w : World) : Prop := Blk w b 135 [.string s, .int .i64 k, .bool bad]
theorem Rdr.cells {b : Nat} {s : ByteArray} {k : Nat} {bad : Bool} {w : World} (h : Rdr b s k bad w) :
    w.cell? ⟨b, 0, none⟩ = some (.string s) ∧ w.cell? ⟨b, 1, none⟩ = some (.int .i64 k) ∧ w.cell? ⟨b, 2, none⟩ = some (.bool bad) ∧ w.frozen? ⟨b, 1, none⟩ = false ∧ w.frozen? ⟨b, 2, none⟩ = false ∧ b < w.heap.size :=
  ⟨Blk.cell h 0, Blk.cell h 1, Blk.cell h 2, Blk.frozen h 1, Blk.frozen h 2, Blk.lt h⟩
theorem Rdr.below {b B : Nat} {s : ByteArray} {k : Nat} {bad : Bool} {w w' : World} (h : Rdr b s k bad w) (hb : Below B w w') (hB : b < B) : Rdr b s k bad w' := Blk.below h hb hB
theorem Rdr.put1 {b : Nat} {s : ByteArray} {k k' : Nat} {bad : Bool} {w : World} (h : Rdr b s k bad w) : Rdr b s k' bad (w.setCell ⟨b, 1, none⟩ (.int .i64 k')) := Blk.set h 1 _
theorem Rdr.put2 {b : Nat} {s : ByteArray} {k : Nat} {bad bad' : Bool} {w : World} (h : Rdr b s k bad w) : Rdr b s k bad' (w.setCell ⟨b, 2, none⟩ (.bool bad')) := Blk.set h 2 _
theorem Rdr.drewN {b : Nat} {s : ByteArray} {k : Nat} {bad : Bool} {w : World} (h : Rdr b s k bad w) (n : Nat) : Rdr b s k bad (w.drewN n) := by
  have e : (w.drewN n).heap = w.heap := by
    induction n with
    | zero => rfl
    | succ n ih => exact ih
  unfold Rdr Blk at *; rw [e]; exact h

/-- Whether the next byte is c. -/
def nextIs (s : ByteArray) (k : Nat) (bad : Bool) (c : UInt8) : Bool := !bad && (s.data.toList[k]? == some c)
theorem nextIs_at {s : ByteArray} {k : Nat} (h : k < s.size) (c : UInt8) : nextIs s k false c = (s[k] == c) := by
  unfold nextIs
  rw [List.getElem?_eq_getElem (by simpa using h)]
  simp; rfl
theorem nextIs_end {s : ByteArray} {k : Nat} {bad : Bool} (h : s.size ≤ k) (c : UInt8) : nextIs s k bad c = false := by
  unfold nextIs
  rw [List.getElem?_eq_none (by simpa using h)]
  simp
theorem u8_beq (x c : UInt8) : ((x.toNat : Int) == (c.toNat : Int)) = (x == c) := by
  by_cases h : x = c
  · subst h; simp
  · have h2 : (x.toNat : Int) ≠ c.toNat := fun e => h (UInt8.toNat_inj.1 (by omega))
    rw [beq_eq_false_iff_ne.2 h, beq_eq_false_iff_ne.2 h2]
def Same (w : World) (r : Value) (e : Ending) (w' : World) : Prop := e = .returned r ∧ ∃ n, w' = w.drewN n

theorem wrapInt (x : Int) (h0 : -9223372036854775808 ≤ x) (h1 : x ≤ 9223372036854775807) : IntKind.i64.wrap x = x := by
  simp [IntKind.wrap, IntKind.bits, IntKind.signed]; omega

/-- Whether all has been taken. -/
def ended (s : ByteArray) (k : Nat) (bad : Bool) : Bool := !bad && decide (k = s.size)
set_option maxRecDepth 100000 in
set_option maxHeartbeats 1000000 in
theorem finished_any (b : Nat) (s : ByteArray) (k : Nat) (bad : Bool) (w : World) (h : Rdr b s k bad w) :
    Calls Tryd.prog 99 #[.pointer (some ⟨b, 0, none⟩)] w (Same w (.bool (ended s k bad))) := by
  obtain ⟨c0, c1, c2, _, _, _⟩ := h.cells
  cases bad with
  | true =>
    have HE := Lib.hid (show ended s k true = false by simp [ended])
    go_enter Tryd.func99, Tryd.ntmps99
    go_wp2_with fail
    go_quiet (fail)
    go_wp2_with fail
    go_ret
    exact ⟨by rw [HE.out]; rfl, _, rfl⟩
  | false =>
    have HE := Lib.hid (show ended s k false = ((k : Int) == (s.size : Int)) by
      unfold ended
      by_cases e : k = s.size
      · subst e; simp
      · have e2 : (k : Int) ≠ s.size := by omega
        rw [beq_eq_false_iff_ne.2 e2]; simp [e])
    go_enter Tryd.func99, Tryd.ntmps99
    go_wp2_with fail
    go_quiet (fail)
    go_wp2_with fail
    go_ret
    exact ⟨by rw [HE.out]; rfl, _, rfl⟩

/-- The sign of a condition, where it stands next. -/
def signAt (s : ByteArray) (k : Nat) (bad : Bool) : Option UInt8 := if bad then none else match s.data.toList[k]? with | some c => if isS c then some c else none | none => none
theorem signAt_at {s : ByteArray} {k : Nat} (h : k < s.size) : signAt s k false = if isS s[k] then some s[k] else none := by
  unfold signAt
  rw [List.getElem?_eq_getElem (by simpa using h)]
  simp; rfl
theorem signAt_end {s : ByteArray} {k : Nat} (h : s.size ≤ k) (bad : Bool) : signAt s k bad = none := by
  unfold signAt
  rw [List.getElem?_eq_none (by simpa using h)]
  simp
/-- Where a byte stands among the signs. -/
def ixS (c : UInt8) : Int := Lib.indexByte (⟨#[60, 61, 62]⟩ : ByteArray).data.toList c
theorem ixS_neg (c : UInt8) : decide (ixS c < 0) = !isS c := by
  have h : ∀ n : Fin 256, decide (Lib.indexByte (⟨#[60, 61, 62]⟩ : ByteArray).data.toList (UInt8.ofNat n.1) < 0) = !isS (UInt8.ofNat n.1) := by decide +kernel
  have := h ⟨c.toNat, c.toNat_lt⟩
  simp only [UInt8.ofNat_toNat] at this
  exact this
theorem indexSign_any (c : UInt8) (w : World) :
    Calls Tryd.prog 102 #[.string ⟨#[60, 61, 62]⟩, .int .u8 c.toNat] w fun e w' => e = .returned (.int .i64 (ixS c)) ∧ w' = w := by
  have := Tryd.strings_IndexByte ⟨#[60, 61, 62]⟩ c.toNat w
  simpa [ixS] using this

def SignPost (b : Nat) (s : ByteArray) (k : Nat) (bad : Bool) (w : World) (e : Ending) (w' : World) : Prop :=
  (∃ c, signAt s k bad = some c ∧ e = .returned (.int .u8 c.toNat) ∧ Rdr b s (k + 1) bad w' ∧ Chg [b] w w') ∨ (signAt s k bad = none ∧ e = .returned (.int .u8 0) ∧ Rdr b s k true w' ∧ Chg [b] w w')
theorem chgN (b : Nat) (w : World) (n : Nat) : Chg [b] w (w.drewN n) := by
  have e : (w.drewN n).heap = w.heap ∧ (w.drewN n).os = w.os ∧ (w.drewN n).tape = w.tape ∧ (w.drewN n).output = w.output := by
    induction n with
    | zero => exact ⟨rfl, rfl, rfl, rfl⟩
    | succ n ih => exact ih
  exact ⟨e.2.1, e.2.2.1, e.2.2.2, by rw [e.1]; exact Nat.le_refl _, fun i _ _ => by rw [e.1]⟩
set_option maxRecDepth 100000 in
set_option maxHeartbeats 1000000 in
theorem takeSign_any (b : Nat) (s : ByteArray) (k : Nat) (bad : Bool) (w : World) (h : Rdr b s k bad w) (hs : s.size ≤ maxLen) (hk : k ≤ s.size) :
    Calls Tryd.prog 97 #[.pointer (some ⟨b, 0, none⟩)] w (SignPost b s k bad w) := by
  obtain ⟨c0, c1, c2, f1, f2, hb⟩ := h.cells
  unfold maxLen at hs
  have HR := Lib.hid h
  clear h
  cases bad with
  | true =>
    have HE := Lib.hid (show signAt s k true = none from rfl)
    go_enter Tryd.func97, Tryd.ntmps97
    go_wp2_with fail
    go_quiet (fail)
    go_wp2_with fail
    go_ret
    exact .inr ⟨HE.out, rfl, (HR.out.drewN _).put2, (chgN b w _).setCell (by simp) _⟩
  | false =>
    by_cases hlt : k < s.size
    · have h1 : ((k : Int) == (s.size : Int)) = false := by rw [beq_eq_false_iff_ne]; omega
      have HN := Lib.hid (ixS_neg s[k])
      have HE := Lib.hid (signAt_at hlt)
      cases hS : isS s[k] with
      | true =>
        have h2 : decide (ixS s[k] < 0) = false := by rw [HN.out, hS]; rfl
        have HE2 := Lib.hid (show signAt s k false = some s[k] by rw [HE.out, hS]; rfl)
        go_enter Tryd.func97, Tryd.ntmps97
        go_wp2_with fail
        go_quiet ((go_at_call 102; exact Calls.quiet_of_same (indexSign_any _ _)))
        go_wp2_with fail
        go_quiet (fail)
        go_wp2_with fail
        go_ret
        exact .inl ⟨_, HE2.out, rfl, ((HR.out.drewN _).put1 (k' := k + 1)).drewN _, ((chgN b w _).setCell (by simp) _).trans (chgN b _ _)⟩
      | false =>
        have h2 : decide (ixS s[k] < 0) = true := by rw [HN.out, hS]; rfl
        have HE2 := Lib.hid (show signAt s k false = none by rw [HE.out, hS]; rfl)
        go_enter Tryd.func97, Tryd.ntmps97
        go_wp2_with fail
        go_quiet ((go_at_call 102; exact Calls.quiet_of_same (indexSign_any _ _)))
        go_wp2_with fail
        go_ret
        exact .inr ⟨HE2.out, rfl, (HR.out.drewN _).put2, (chgN b w _).setCell (by simp) _⟩
    · obtain rfl : k = s.size := by omega
      have HE := Lib.hid (signAt_end (Nat.le_refl s.size) false)
      go_enter Tryd.func97, Tryd.ntmps97
      go_wp2_with fail
      go_quiet (fail)
      go_wp2_with fail
      go_ret
      exact .inr ⟨HE.out, rfl, (HR.out.drewN _).put2, (chgN b w _).setCell (by simp) _⟩
end Go.Proofs.YtbbemeaojmfndaaDoor
